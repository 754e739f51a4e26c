/- What the document's SameEntry and SameEntries do with entries with masks. -/
import Derived.Test.YtlnkfgdepddmlacMAll
import Derived.Test.YtlnkfgdepddmlacLSame
import Derived.Test.YtlnkfgdepddmlacLOne
namespace Go.Proofs.Ytlnkfgdepddmlac
open Go.RowKit Mth

set_option maxHeartbeats 1000000 in
set_option maxRecDepth 20000 in
theorem msame_entry {w : World} {d f : MD} {e : TE} (hd : d.good w e) (hf : f.good w e) (hl : f.ln = d.ln) :
    Calls Try.prog 34 #[d.ev, f.ev] w fun e w' => e = .returned (.bool true) ∧ Grew w w' := by
  obtain ⟨dka, dkn, dkc, dma, dmn, dmc, dln, dpr, dac, da, dn, dc⟩ := d
  obtain ⟨fka, fkn, fkc, fma, fmn, fmc, fln, fpr, fac, fa, fn, fc⟩ := f
  obtain ⟨-, h1, h2, -, h3, h4, h5, h6, -, h7, h8⟩ := hd
  obtain ⟨-, k1, k2, -, k3, k4, k5, k6, -, k7, k8⟩ := hf
  simp only at *
  have e1 : fkn = dkn := by rw [← h2.1, ← k2.1]
  have e2 : fn = dn := by rw [← h8.1, ← k8.1]
  have e3 : fmn = dmn := by rw [← h4.1, ← k4.1]
  subst e1; subst e2; subst e3; subst h5; subst k5; subst h6; subst k6; subst hl
  have hx : (e.ac == e.ac) = true := by simp
  have hy : (fln == fln) = true := by simp
  have hz : (e.pr == e.pr) = true := by simp
  have A1 := hid h2
  have A2 := hid k2
  have A3 := hid h8
  have A4 := hid k8
  have A5 := hid h4
  have A6 := hid k4
  clear h2 k2 h8 k8 h4 k4
  go_enter Try.func34, Try.ntmps34
  go_wp2_with fail
  refine (same_nums _ _ h1 A1.out.alloc.alloc A2.out.alloc.alloc).mono ?_
  rintro e w1 ⟨rfl, s1, rfl⟩
  go_wp2_with fail
  refine (same_nums _ _ h3 (A5.out.alloc.alloc.drewN _) (A6.out.alloc.alloc.drewN _)).mono ?_
  rintro e w1 ⟨rfl, s2, rfl⟩
  go_wp2_with fail
  refine (same_nums _ _ h7 (A3.out.alloc.alloc.drewN _) (A4.out.alloc.alloc.drewN _)).mono ?_
  rintro e w1 ⟨rfl, s3, rfl⟩
  go_wp2
  go_ret
  exact ⟨rfl, grew_alloc2 _ _ _ _⟩

set_option maxHeartbeats 2000000 in
set_option maxRecDepth 20000 in
theorem msame_entries {w : World} {a b : Option Addr} {n c d : Nat} {E : List TE} (hE : n ≤ 100000) (hu : MEnts w a n E) (hv : MEnts w b n E) :
    Calls Try.prog 22 #[.slice a n c, .slice b n d] w fun e w' => e = .returned (.bool true) ∧ Below w.heap.size w w' := by
  have hne : ((n : Int) != (n : Int)) = false := by simp
  have HU := hid hu
  have HV := hid hv
  have hlen := hu.1
  clear hu hv
  go_enter Try.func22, Try.ntmps22
  go_wp2
  go_loopw [5] (fun q wr => ∃ k : Nat, k ≤ n ∧ q = .int .i64 k ∧ Below w.heap.size w wr) (fun q _ => n - (intOf q).toNat)
  case atStart => exact ⟨0, Nat.zero_le _, rfl, Below.refl _ _⟩
  case round =>
    obtain ⟨k, hk, rfl, hb⟩ := hrel
    by_cases hlt : k < n
    · have he : E[k]? = some (E[k]'(by omega)) := List.getElem?_eq_getElem _
      obtain ⟨g, x, rfl, ⟨d0, d1, d2, d3, d4, d5⟩, gd, lx⟩ := (HU.out.step hb).2 k _ he
      obtain ⟨g', y, rfl, ⟨x0, x1, x2, x3, x4, x5⟩, gx, ly⟩ := (HV.out.step hb).2 k _ he
      have HC := hid (msame_entry (w := wr.drew) (gd.step (Below.refl _ _).drew) (gx.step (Below.refl _ _).drew) (ly.trans lx.symm))
      have HB := hid hb
      clear gd gx hb HU HV he lx ly
      have hki : (k : Int) < (n : Int) := by omega
      go_wp2
      go_region_with (go_at_call 34; refine HC.out.mono ?_; rintro e w1 ⟨rfl, hg1⟩)
      all_goals
        have HB1 := hid (bl_step HB.out.drew hg1.below)
        clear hg1
        go_wp2
        go_roundw
        case rel => exact ⟨k + 1, by omega, by go_num, HB1.out⟩
        case measure => simp [intOf]; omega
    · go_wp2
      go_ret
      exact ⟨rfl, hb⟩
end Go.Proofs.Ytlnkfgdepddmlac
