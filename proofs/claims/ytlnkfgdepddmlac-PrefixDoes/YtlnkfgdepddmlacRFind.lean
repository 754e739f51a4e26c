/- What Find of the document's own table by beginnings does. -/
import Derived.Test.YtlnkfgdepddmlacRFits
import Derived.Test.YtlnkfgdepddmlacRAdd
import Derived.Deep.RegionHeld3
namespace Go.Proofs.Ytlnkfgdepddmlac
open Go.RowKit Mth

set_option maxHeartbeats 2000000 in
set_option maxRecDepth 20000 in
theorem rfind_out {w : World} {r : Nat} {wd most : Int} {kb ko kc key : Nat} (hd : RHead w r wd most) (hkc : w.cell? ⟨kb, ko, none⟩ = some (.int .u64 (key : Int))) (hg : ¬ (1 ≤ wd ∧ wd ≤ 64 ∧ key < 2 ^ wd.toNat)) :
    Calls Try.prog 19 #[.pointer (some ⟨r, 0, none⟩), .slice (some ⟨kb, ko, none⟩) 1 kc] w fun e w' => FindDone w w' none e := by
  have hb0 := bl_alloc (o := HC 0 none 0 0) (Below.refl w.heap.size w)
  have hd0 := hd.step hb0
  have c0 := hd0.c0
  have c1 := hd0.c1
  have c2 := hd0.c2
  have kk := (hb0.cell (p := ⟨kb, ko, none⟩) (show kb < w.heap.size from World.block_lt_of_cell? w _ hkc)).trans hkc
  obtain ⟨x0, x1, f0, f1⟩ := new_two w (.int .i64 0) (.slice none 0 0) 40
  have HB0 : Hid (∀ s, Below w.heap.size w ((w.alloc (HC 0 none 0 0)).drewN s)) := fun s => below_drewN hb0 s
  clear hd hd0 hb0 hkc
  go_enter Try.func19, Try.ntmps19
  go_upto_region 1 with fail
  generalize w.alloc (HC 0 none 0 0) = w0 at *
  have HEND : Hid (∀ s, FindDone w (((w0.drewN s).setCell ⟨w.heap.size, 0, none⟩ (.int .i64 0)).setCell ⟨w.heap.size, 1, none⟩ (.slice none 0 0)) none (.returned (.tuple #[NoHit, .int .i64 0, .bool false]))) := fun s => ⟨_, rfl, says_none _, ((HB0.out s).setCell (by simp) _).setCell (by simp) _⟩
  by_cases g1 : wd < 1
  · clear hg HB0
    go_quiet (fail)
    have d0 : (w0.drewN nq).cell? ⟨w.heap.size, 0, none⟩ = some (.int .i64 0) := x0
    have d1 : (w0.drewN nq).cell? ⟨w.heap.size, 1, none⟩ = some (.slice none 0 0) := x1
    go_wp2
    exact bodyPost_ret (v := .tuple #[NoHit, .int .i64 0, .bool false]) (by simp [results, Try.results19, go_sem, d0, d1]) rfl (HEND.out _)
  · by_cases g2 : 64 < wd
    · clear hg HB0
      go_quiet (fail)
      have d0 : (w0.drewN nq).cell? ⟨w.heap.size, 0, none⟩ = some (.int .i64 0) := x0
      have d1 : (w0.drewN nq).cell? ⟨w.heap.size, 1, none⟩ = some (.slice none 0 0) := x1
      go_wp2
      exact bodyPost_ret (v := .tuple #[NoHit, .int .i64 0, .bool false]) (by simp [results, Try.results19, go_sem, d0, d1]) rfl (HEND.out _)
    · obtain ⟨W, rfl⟩ := Int.eq_ofNat_of_zero_le (show 0 ≤ wd by omega)
      rw [Int.toNat_natCast] at hg
      have hmk := mask_all W (by omega) (by omega)
      have hpow : 1 ≤ 2 ^ W := Nat.one_le_two_pow
      have hyes : decide (maskN (W : Int) < (key : Int)) = true := by rw [hmk]; apply decide_eq_true; omega
      have HW := hid (fun s => (wide_any (key : Int) (W : Int) (w0.drewN s)))
      rw [hyes] at HW
      clear hg HB0 hmk hpow hyes
      go_quiet ((go_at_call 45; exact Calls.quiet_of_same (HW.out _)))
      have d0 : (w0.drewN nq).cell? ⟨w.heap.size, 0, none⟩ = some (.int .i64 0) := x0
      have d1 : (w0.drewN nq).cell? ⟨w.heap.size, 1, none⟩ = some (.slice none 0 0) := x1
      go_wp2
      exact bodyPost_ret (v := .tuple #[NoHit, .int .i64 0, .bool false]) (by simp [results, Try.results19, go_sem, d0, d1]) rfl (HEND.out _)
end Go.Proofs.Ytlnkfgdepddmlac
