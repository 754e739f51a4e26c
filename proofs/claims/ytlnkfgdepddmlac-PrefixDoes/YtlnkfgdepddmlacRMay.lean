/- What may, one, at of the document's own table by beginnings do. -/
import Derived.Test.YtlnkfgdepddmlacRRows
import Derived.Test.YtlnkfgdepddmlacTLong
namespace Go.Proofs.Ytlnkfgdepddmlac
open Go.RowKit Mth

/-- an entry with one key, as it is handed over -/
structure Arg (w : World) (kg ko kc : Nat) (aa : Option Addr) (an ca key : Nat) (xs : List Int) : Prop where
  lk : Lst w 0 (some ⟨kg, ko, none⟩) 1 kc [(key : Int)]
  la : Lst w 0 aa an ca xs
  small : an ≤ 20
  k64 : key < 18446744073709551616

theorem Arg.moved {w w' : World} {kg ko kc : Nat} {aa : Option Addr} {an ca key : Nat} {xs : List Int} (h : Arg w kg ko kc aa an ca key xs) (m : Moved w w') : Arg w' kg ko kc aa an ca key xs := ⟨h.lk.moved m, h.la.moved m, h.small, h.k64⟩

theorem Arg.step {w w' : World} {kg ko kc : Nat} {aa : Option Addr} {an ca key : Nat} {xs : List Int} (h : Arg w kg ko kc aa an ca key xs) (hb : Below w.heap.size w w') : Arg w' kg ko kc aa an ca key xs := h.moved (moved_below hb)

theorem Arg.turned {w w' : World} {kg ko kc : Nat} {aa : Option Addr} {an ca key : Nat} {xs : List Int} (h : Arg w kg ko kc aa an ca key xs) (t : Turned w w') : Arg w' kg ko kc aa an ca key xs :=
  ⟨⟨h.lk.1, h.lk.2.1, t.has h.lk.2.2.2 h.lk.2.2.1, h.lk.2.2.2⟩, ⟨h.la.1, h.la.2.1, t.has h.la.2.2.2 h.la.2.2.1, h.la.2.2.2⟩, h.small, h.k64⟩

abbrev AV (kg ko kc : Nat) (ln ac : Int) (aa : Option Addr) (an ca : Nat) : Value := EV (some ⟨kg, ko, none⟩) 1 kc none 0 0 ln 0 ac aa an ca
abbrev AC (kg ko kc : Nat) (ln ac : Int) (aa : Option Addr) (an ca : Nat) : Obj := EC (some ⟨kg, ko, none⟩) 1 kc none 0 0 ln 0 ac aa an ca

def MayDone (w w' : World) (wd : Int) (key : Nat) (ln : Int) (e : Ending) : Prop := e = .returned (.int .i64 (if Good wd key ln then 0 else 6)) ∧ Below w.heap.size w w'

set_option maxHeartbeats 4000000 in
set_option maxRecDepth 20000 in
theorem may_any {w : World} {r : Nat} {wd most : Int} {kg ko kc : Nat} {ln ac : Int} {aa : Option Addr} {an ca key : Nat} {xs : List Int} (hd : RHead w r wd most) (ha : Arg w kg ko kc aa an ca key xs) :
    Calls Try.prog 40 #[.pointer (some ⟨r, 0, none⟩), AV kg ko kc ln ac aa an ca] w fun e w' => MayDone w w' wd key ln e := by
  have hb0 := bl_alloc (o := AC kg ko kc ln ac aa an ca) (Below.refl w.heap.size w)
  have hd0 := hd.step hb0
  have c0 := hd0.c0
  have c2 := hd0.c2
  have kk := lst_cell (ha.step hb0).lk
  obtain ⟨x0, x1, x2, x3, x4, x5, _, _, _, _, _, _⟩ := six_new w (.slice (some ⟨kg, ko, none⟩) 1 kc) (.slice none 0 0) (.int .i64 ln) (.int .i64 0) (.int .i64 ac) (.slice aa an ca) 33
  have HB0 : Hid (∀ s, Below w.heap.size w ((w.alloc (AC kg ko kc ln ac aa an ca)).drewN s)) := fun s => below_drewN hb0 s
  have HB1 := hid hb0
  have hk64 := ha.k64
  clear hd hd0 ha hb0
  go_enter Try.func40, Try.ntmps40
  go_upto_region 6 with fail
  generalize w.alloc (AC kg ko kc ln ac aa an ca) = w0 at *
  clear x1 x3 x4 x5
  by_cases g1 : wd < 1
  · have hG : ¬ Good wd key ln := by rintro ⟨a, _⟩; omega
    have HE : Hid (∀ s, MayDone w (w0.drewN s) wd key ln (.returned (.int .i64 6))) := fun s => ⟨by rw [if_neg hG], HB0.out s⟩
    clear HB0 HB1 hG
    go_quiet (fail)
    go_wp2
    go_ret
    exact HE.out _
  · by_cases g2 : 64 < wd
    · have hG : ¬ Good wd key ln := by rintro ⟨_, b, _⟩; omega
      have HE : Hid (∀ s, MayDone w (w0.drewN s) wd key ln (.returned (.int .i64 6))) := fun s => ⟨by rw [if_neg hG], HB0.out s⟩
      clear HB0 HB1 hG
      go_quiet (fail)
      go_wp2
      go_ret
      exact HE.out _
    · by_cases g3 : ln < 0
      · have hG : ¬ Good wd key ln := by rintro ⟨_, _, b, _⟩; omega
        have HE : Hid (∀ s, MayDone w (w0.drewN s) wd key ln (.returned (.int .i64 6))) := fun s => ⟨by rw [if_neg hG], HB0.out s⟩
        clear HB0 HB1 hG
        go_quiet (fail)
        go_wp2
        go_ret
        exact HE.out _
      · by_cases g4 : wd < ln
        · have hG : ¬ Good wd key ln := by rintro ⟨_, _, _, b, _⟩; omega
          have HE : Hid (∀ s, MayDone w (w0.drewN s) wd key ln (.returned (.int .i64 6))) := fun s => ⟨by rw [if_neg hG], HB0.out s⟩
          clear HB0 HB1 hG
          go_quiet (fail)
          go_wp2
          go_ret
          exact HE.out _
        · obtain ⟨W, rfl⟩ := Int.eq_ofNat_of_zero_le (show 0 ≤ wd by omega)
          obtain ⟨m, rfl⟩ := Int.eq_ofNat_of_zero_le (show 0 ≤ ln by omega)
          have hWide := fun x w' => wide_any x (W : Int) w'
          have hmk := mask_all W (by omega) (by omega)
          have hpow : 1 ≤ 2 ^ W := Nat.one_le_two_pow
          by_cases g5 : key < 2 ^ W
          · have hno : decide (maskN (W : Int) < (key : Int)) = false := by rw [hmk]; apply decide_eq_false; omega
            have HW := hid (fun s => (wide_any (key : Int) (W : Int) (w0.drewN s)))
            rw [hno] at HW
            have hlo := mask_at W m (by omega) (by omega)
            have hand := and_num key (W - m) hk64 (by omega)
            have HON := hid (fun s s' => ones_any ((W : Int) - (m : Int)) ((w0.drewN s).drewN s'))
            rw [hlo] at HON
            generalize 2 ^ (W - m) - 1 = lo at *
            have HG : Hid (Good W key m ↔ key % 2 ^ (W - m) = 0) := by
              unfold Good
              rw [Int.toNat_natCast, show ((W : Int) - (m : Int)).toNat = W - m from by omega]
              exact ⟨fun h => h.2.2.2.2.2, fun h => ⟨by omega, by omega, by omega, by omega, g5, h⟩⟩
            generalize key % 2 ^ (W - m) = md at *
            clear HB1 hmk hpow g5 hno hWide hlo
            go_quiet ((go_at_call 45; exact Calls.quiet_of_same (HW.out _)))
            go_wp2
            have d2 : (w0.drewN nq).cell? ⟨r, 2, none⟩ = some (.int .i64 (W : Int)) := c2
            have y0 : (w0.drewN nq).cell? ⟨w.heap.size, 0, none⟩ = some (.slice (some ⟨kg, ko, none⟩) 1 kc) := x0
            have y2 : (w0.drewN nq).cell? ⟨w.heap.size, 2, none⟩ = some (.int .i64 (m : Int)) := x2
            have yk : (w0.drewN nq).cell? ⟨kg, ko, none⟩ = some (.int .u64 (key : Int)) := kk
            have HB2 : Hid (∀ s, Below w.heap.size w ((w0.drewN nq).drewN s)) := fun s => by rw [World.drewN_drewN]; exact HB0.out _
            have HO2 := hid (HON.out nq)
            clear HB0 HON c0 c2 x0 x2 kk HW
            generalize w0.drewN nq = w1 at *
            go_quiet ((go_at_call 25; exact Calls.quiet_of_same (HO2.out _)))
            by_cases hz : md = 0
            · subst hz
              have HE : Hid (∀ s, MayDone w (w1.drewN s) W key m (.returned (.int .i64 0))) := fun s => ⟨by rw [if_pos (HG.out.2 rfl)], HB2.out s⟩
              clear HB2 HG HO2
              go_wp2
              go_ret
              exact HE.out _
            · have hmd : ((md : Int) != 0) = true := by simp; omega
              have HE : Hid (∀ s, MayDone w (w1.drewN s) W key m (.returned (.int .i64 6))) := fun s => ⟨by rw [if_neg (fun h => hz (HG.out.1 h))], HB2.out s⟩
              clear HB2 HG HO2 hz
              go_wp2
              go_ret
              exact HE.out _
          · have hyes : decide (maskN (W : Int) < (key : Int)) = true := by rw [hmk]; apply decide_eq_true; omega
            have hG : ¬ Good W key m := by rintro ⟨_, _, _, _, b, _⟩; rw [Int.toNat_natCast] at b; omega
            have HE : Hid (∀ s, MayDone w (w0.drewN s) W key m (.returned (.int .i64 6))) := fun s => ⟨by rw [if_neg hG], HB0.out s⟩
            have HW := hid (fun s => (wide_any (key : Int) (W : Int) (w0.drewN s)))
            rw [hyes] at HW
            clear HB0 HB1 hG hmk hpow g5 hyes hWide
            go_quiet ((go_at_call 45; exact Calls.quiet_of_same (HW.out _)))
            go_wp2
            go_ret
            exact HE.out _
end Go.Proofs.Ytlnkfgdepddmlac
