/- What the document's SameEntry and SameEntries do. -/
import Derived.Test.YtlnkfgdepddmlacLSame
import Derived.Test.YtlnkfgdepddmlacLOne
namespace Go.Proofs.Ytlnkfgdepddmlac
open Go.RowKit Mth

set_option maxHeartbeats 1000000 in
set_option maxRecDepth 20000 in
theorem same_entry {w : World} {d f : ED} {e : Ent} (hd : d.good w e) (hf : f.good w e) :
    Calls Try.prog 34 #[EV d.ka d.kn d.kc none 0 0 d.ln 0 d.act d.a d.n d.c, EV f.ka f.kn f.kc none 0 0 f.ln 0 f.act f.a f.n f.c] w
      fun e w' => e = .returned (.bool true) ∧ Below w.heap.size w w' := by
  obtain ⟨dka, dkn, dkc, dln, dact, da, dn, dc⟩ := d
  obtain ⟨fka, fkn, fkc, fln, fact, fa, fn, fc⟩ := f
  obtain ⟨_, h1, h2, h3, h3', _, h4, h5⟩ := hd
  obtain ⟨_, _, k2, k3, k3', _, _, k5⟩ := hf
  simp only at *
  have e1 : fkn = dkn := by rw [← h2.1, ← k2.1]
  have e2 : fn = dn := by rw [← h5.1, ← k5.1]
  subst e1; subst e2; subst h3; subst k3; subst h3'; subst k3'
  have hx : (e.ac == e.ac) = true := by simp
  have hy : (e.ln == e.ln) = true := by simp
  have A1 := hid h2
  have A2 := hid k2
  have A3 := hid h5
  have A4 := hid k5
  clear h2 k2 h5 k5
  go_enter Try.func34, Try.ntmps34
  go_wp2_with fail
  refine (same_nums _ _ h1 A1.out.alloc.alloc A2.out.alloc.alloc).mono ?_
  rintro e w1 ⟨rfl, s1, rfl⟩
  go_wp2_with fail
  refine (same_nums _ _ (by omega) (has_nil _ _) (has_nil _ _)).mono ?_
  rintro e w1 ⟨rfl, s2, rfl⟩
  go_wp2_with fail
  refine (same_nums _ _ h4 (A3.out.alloc.alloc.drewN _) (A4.out.alloc.alloc.drewN _)).mono ?_
  rintro e w1 ⟨rfl, s3, rfl⟩
  go_wp2
  go_ret
  exact ⟨rfl, below_drewN (bl_alloc (bl_alloc (Below.refl _ _))) _⟩

theorem ED.good.drew {d : ED} {w : World} {e : Ent} (h : d.good w e) : d.good w.drew e := h

set_option maxHeartbeats 2000000 in
set_option maxRecDepth 20000 in
theorem same_entries {w : World} {a b : Option Addr} {n c d : Nat} {E : List Ent} (hE : n ≤ 100000) (hu : Ents w a n E) (hv : Ents w b n E) :
    Calls Try.prog 22 #[.slice a n c, .slice b n d] w fun e w' => e = .returned (.bool true) ∧ Below w.heap.size w w' := by
  have hne : ((n : Int) != (n : Int)) = false := by simp
  have HU := hid hu
  have HV := hid hv
  have hlen := hu.1
  clear hu hv
  go_enter Try.func22, Try.ntmps22
  go_wp2
  go_loopw [5] (fun q wr => ∃ k : Nat, k ≤ n ∧ q = .int .i64 k ∧ Below w.heap.size w wr) (fun q _ => n - (intOf q).toNat)
  case atStart => exact ⟨0, Nat.zero_le _, rfl, Below.refl _ _⟩
  case round =>
    obtain ⟨k, hk, rfl, hb⟩ := hrel
    by_cases hlt : k < n
    · have he : E[k]? = some (E[k]'(by omega)) := List.getElem?_eq_getElem _
      obtain ⟨g, x, rfl, ⟨d0, d1, d2, d3, d4, d5⟩, gd⟩ := (HU.out.moved (moved_below hb)).2 k _ he
      obtain ⟨g', y, rfl, ⟨x0, x1, x2, x3, x4, x5⟩, gx⟩ := (HV.out.moved (moved_below hb)).2 k _ he
      have GD := hid gd
      have GX := hid gx
      have HB := hid hb
      clear gd gx hb HU HV he
      have hki : (k : Int) < (n : Int) := by omega
      go_wp2
      go_region_with (go_at_call 34; refine (same_entry GD.out.drew GX.out.drew).mono ?_; rintro e w1 ⟨rfl, hb1⟩)
      all_goals
        have HB1 := hid (bl_step HB.out.drew hb1)
        clear hb1
        go_wp2
        go_roundw
        case rel => exact ⟨k + 1, by omega, by go_num, HB1.out⟩
        case measure => simp [intOf]; omega
    · go_wp2
      go_ret
      exact ⟨rfl, hb⟩
end Go.Proofs.Ytlnkfgdepddmlac
