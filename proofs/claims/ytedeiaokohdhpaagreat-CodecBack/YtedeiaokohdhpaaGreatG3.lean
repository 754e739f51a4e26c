/- Texts of one chain, joined: ZRd1, ZRd2, ZRd3. -/
import Derived.Test.YtedeiaokohdhpaaGreatG0
import Derived.WalkKit
import Derived.WalkSpells
import Derived.WalkLawsBesides
import Derived.Test.YtedeiaokohdhpaaGreatG1
import Derived.Test.YtedeiaokohdhpaaGreatG2
import Derived.Laws.ShiftsVarLaws
import Derived.Laws.BitsAllLaws
import Derived.Laws.DeepNot64
namespace Go.Proofs.YtedeiaokohdhpaaGreat
open Go.RowKit
@[reducible] def gaveV (code at_ : Int) : Value := .iface 129 (.agg #[.int .i64 code, .int .i64 at_])
set_option maxHeartbeats 1000000 in
set_option maxRecDepth 20000 in
theorem give_up (code at_ : Int) (w : World) : Calls Tryz.prog 75 #[.int .i64 code, .int .i64 at_] w fun e w' => e = .panicked [{ v := gaveV code at_, recovered := false }] ∧ w' = w := by
  go_enter Tryz.func75, Tryz.ntmps75
  go_wp2
  simp [bodyPost]
theorem panic_out {P : Program} {fn : Func} {R : Ending → World → Prop} {a : Act} {w : World} {l : List PanicEntry} (h : R (.panicked l) w) (hd : a.defers = []) : bodyPost P fn R (.panic l) a w := by simpa [bodyPost, hd] using h
structure Rd (p : Nat) (a : Option Addr) (c : Nat) (zs : List Int) (t : Nat) (w : World) : Prop where
  c0 : w.cell? ⟨p, 0, none⟩ = some (.slice a zs.length c)
  c1 : w.cell? ⟨p, 1, none⟩ = some (.int .i64 (t : Int))
  fz : w.frozen? ⟨p, 1, none⟩ = false
  hz : Has .u8 w a zs.length zs
  le : t ≤ zs.length
  few : zs.length ≤ 100000
  lo : ∀ ad, a = some ad → ad.block < p
structure Rn (p : Nat) (w w' : World) : Prop where
  os : w'.os = w.os
  tape : w'.tape = w.tape
  output : w'.output = w.output
  size : w.heap.size ≤ w'.heap.size
  block : ∀ k, k < w.heap.size → k ≠ p → w'.heap[k]? = w.heap[k]?
theorem Rn.refl (p : Nat) (w : World) : Rn p w w := ⟨rfl, rfl, rfl, Nat.le_refl _, fun _ _ _ => rfl⟩
theorem Rn.trans {p : Nat} {a b c : World} (h : Rn p a b) (k : Rn p b c) : Rn p a c := ⟨k.os.trans h.os, k.tape.trans h.tape, k.output.trans h.output, Nat.le_trans h.size k.size, fun i hi hp => (k.block i (Nat.lt_of_lt_of_le hi h.size) hp).trans (h.block i hi hp)⟩
theorem Rn.of {p : Nat} {w w' : World} (h : Below w.heap.size w w') : Rn p w w' := ⟨h.os, h.tape, h.output, h.size, fun k hk _ => h.block k hk⟩
theorem Rn.put {p : Nat} {w w' : World} (h : Rn p w w') (o : Nat) (v : Value) : Rn p w (w'.setCell ⟨p, o, none⟩ v) := h.trans ⟨rfl, rfl, rfl, by simp [World.setCell], fun k _ hp => Below.heap_setCell _ _ _ _ hp⟩
theorem Rn.low {p B : Nat} {w w' : World} (h : Rn p w w') (hp : B ≤ p) (hB : B ≤ w.heap.size) : Below B w w' := ⟨h.os, h.tape, h.output, h.size, fun k hk => h.block k (by omega) (by omega)⟩
theorem Rd.step {p : Nat} {a : Option Addr} {c : Nat} {zs : List Int} {t : Nat} {w w' : World} (h : Rd p a c zs t w) (b : Below w.heap.size w w') : Rd p a c zs t w' :=
  ⟨cell_keep h.c0 b, cell_keep h.c1 b, (b.frozen (p := ⟨p, 1, none⟩) (World.block_lt_of_cell? _ _ h.c1)).trans h.fz, h.hz.step b, h.le, h.few, h.lo⟩
theorem Rd.put {p : Nat} {a : Option Addr} {c : Nat} {zs : List Int} {t : Nat} {w : World} (h : Rd p a c zs t w) {u : Nat} (hu : u ≤ zs.length) : Rd p a c zs u (w.setCell ⟨p, 1, none⟩ (.int .i64 (u : Int))) :=
  ⟨(World.cell?_setCell_other _ _ _ _ (by intro e; simp only [Addr.mk.injEq] at e; omega)).trans h.c0, World.cell?_setCell_same _ _ _ h.c1, (World.frozen?_setCell _ _ _ _).trans h.fz, h.hz.put (by decide) h.c1 _, hu, h.few, h.lo⟩
def RDone {α : Type} (p : Nat) (a : Option Addr) (c : Nat) (zs : List Int) (V : α → World → Value → Prop) (r : Except (Int × Int) (α × Nat)) (w : World) (e : Ending) (w' : World) : Prop :=
  Rn p w w' ∧ match r with
  | .ok (x, u) => ∃ v, e = .returned v ∧ V x w' v ∧ Rd p a c zs u w'
  | .error (code, at_) => e = .panicked [{ v := gaveV code at_, recovered := false }]
def nextR (zs : List Int) (t : Nat) : Except (Int × Int) (Int × Nat) := match zs[t]? with
  | some b => .ok (b, t + 1)
  | none => .error (3, (zs.length : Int))
set_option maxHeartbeats 1000000 in
set_option maxRecDepth 20000 in
theorem rnext {p : Nat} {a : Option Addr} {c : Nat} {zs : List Int} {t : Nat} {w : World} (h : Rd p a c zs t w) :
    Calls Tryz.prog 162 #[.pointer (some ⟨p, 0, none⟩)] w (RDone p a c zs (fun x _ v => v = .int .u8 x) (nextR zs t) w) := by
  have c0 := h.c0
  have c1 := h.c1
  have fz := h.fz
  have hpl : p < w.heap.size := World.block_lt_of_cell? _ _ c0
  have HR := hid h
  by_cases ht : t = zs.length
  · have HN : Hid (nextR zs t = .error (3, (zs.length : Int))) := by show _ = _; unfold nextR; rw [ht, List.getElem?_eq_none (Nat.le_refl _)]
    have HG := hid (fun w => give_up 3 (zs.length : Int) w)
    rw [ht] at c1
    clear h ht
    go_enter Tryz.func162, Tryz.ntmps162
    go_wp2
    go_quiet (fail)
    have b1 : Below w.heap.size w (w.drewN nq) := ⟨rfl, rfl, rfl, Nat.le_refl _, fun _ _ => rfl⟩
    have k0 := cell_keep c0 b1
    have HB := hid b1
    clear c0 c1 fz hpl HR b1
    generalize w.drewN nq = w1 at *
    go_wp2_with fail
    refine (HG.out _).mono ?_
    rintro e w2 ⟨rfl, rfl⟩
    exact panic_out (by rw [HN.out]; exact ⟨Rn.of HB.out, rfl⟩) rfl
  · have hlt : t < zs.length := by have := h.le; omega
    have hli : (t : Int) < (zs.length : Int) := by omega
    have ht0 : ¬ (t : Int) = (zs.length : Int) := by omega
    have hne : ((t : Int) == (zs.length : Int)) = false := by simpa using ht0
    obtain ⟨b, hb⟩ : ∃ b, zs[t]? = some b := ⟨_, List.getElem?_eq_getElem hlt⟩
    have HN : Hid (nextR zs t = .ok (b, t + 1)) := by show _ = _; unfold nextR; rw [hb]
    obtain ⟨g, o, rfl, hgl, hcs⟩ := h.hz.some (by omega)
    have hc := hcs t hlt
    rw [List.getD_eq_getElem?_getD, hb, Option.getD_some] at hc
    clear hb
    have hfew := h.few
    clear h ht
    go_enter Tryz.func162, Tryz.ntmps162
    go_wp2
    go_quiet (fail)
    have b1 : Below w.heap.size w (w.drewN nq) := ⟨rfl, rfl, rfl, Nat.le_refl _, fun _ _ => rfl⟩
    have R1 := hid (HR.out.step b1)
    have HB := hid b1
    have k0 := cell_keep c0 b1
    have k1 := cell_keep c1 b1
    have k2 := cell_keep hc b1
    clear c0 c1 fz hpl HR b1 hcs hc hgl hne ht0
    generalize w.drewN nq = w1 at *
    clear nq
    go_wp2
    go_quiet (fail)
    have b2 : Below w1.heap.size w1 (w1.drewN nq) := ⟨rfl, rfl, rfl, Nat.le_refl _, fun _ _ => rfl⟩
    have R2 := hid (R1.out.step b2)
    have HB2 := hid (bl_step HB.out b2)
    have q1 := R2.out.c1
    have q2 := R2.out.fz
    clear k0 k1 k2 b2 R1 HB
    generalize w1.drewN nq = w2 at *
    have hpl : p < w2.heap.size := World.block_lt_of_cell? _ _ q1
    have hw : IntKind.i64.wrap ((t : Int) + 1) = ((t + 1 : Nat) : Int) := by rw [wrap_small _ (by omega) (by omega)]; omega
    have HE : Hid (RDone p (some ⟨g, o, none⟩) c zs (fun x _ v => v = .int .u8 x) (nextR zs t) w (.returned (.int .u8 b)) (w2.setCell ⟨p, 1, none⟩ (.int .i64 ((t + 1 : Nat) : Int)))) := by
      show RDone _ _ _ _ _ _ _ _ _
      rw [HN.out]
      exact ⟨(Rn.of HB2.out).put 1 _, _, rfl, rfl, R2.out.put hlt⟩
    generalize t + 1 = u at *
    clear R2 HB2 HN
    go_wp2
    go_ret
    exact HE.out
end Go.Proofs.YtedeiaokohdhpaaGreat

namespace Go.Proofs.YtedeiaokohdhpaaGreat
open Go.RowKit
def plainF (zs : List Int) : Nat → Nat → Nat → Nat → Except (Int × Int) (Nat × Nat)
  | 0, _, _, _ => .error (1, 0)
  | f + 1, i, t, acc => match zs[t]? with
    | none => .error (3, (zs.length : Int))
    | some b => if (i = 9 ∧ 1 < b) ∨ (0 < i ∧ b = 0) then .error (1, (t : Int)) else if b < 128 then .ok (acc + b.toNat * 2 ^ (7 * i), t + 1) else plainF zs f (i + 1) (t + 1) (acc + (b.toNat - 128) * 2 ^ (7 * i))
def plainR (zs : List Int) (t : Nat) : Except (Int × Int) (Nat × Nat) := plainF zs 10 0 t 0
theorem shl_add (acc x k : Nat) (h : acc < 2 ^ k) : acc ||| (x * 2 ^ k) = acc + x * 2 ^ k := by
  rw [Nat.or_comm, Nat.mul_comm x, ← Nat.two_pow_add_eq_or_of_lt h]
  omega
theorem plain_val (acc k : Nat) (b : Int) (h0 : 0 ≤ b) (h1 : b < 256) (ha : acc < 2 ^ k) (hk : k ≤ 56 ∨ (k = 63 ∧ b ≤ 1)) :
    bits .or .u64 (acc : Int) (IntKind.u64.wrap (IntKind.u64.wrap (bits .and .u8 b 127) * 2 ^ k)) = ((acc + b.toNat % 128 * 2 ^ k : Nat) : Int) ∧ acc + b.toNat % 128 * 2 ^ k < 18446744073709551616 := by
  obtain ⟨y, rfl⟩ := Int.eq_ofNat_of_zero_le h0
  have hy : y < 256 := by omega
  have e1 : bits .and .u8 (y : Int) 127 = ((y % 128 : Nat) : Int) := by
    have := u8_and (y : Int) 127 (by omega) (by omega) (by decide) (by decide)
    rw [this, Int.toNat_natCast]
    show ((y &&& 127 : Nat) : Int) = _
    rw [show (127 : Nat) = 2 ^ 7 - 1 from rfl, Nat.and_two_pow_sub_one_eq_mod]
  have hb : y % 128 * 2 ^ k + 2 ^ k ≤ 18446744073709551616 := by
    rcases hk with hk | ⟨rfl, hk⟩
    · have h2 : (2 : Nat) ^ k ≤ 2 ^ 56 := Nat.pow_le_pow_right (by decide) hk
      have h3 : (y % 128 + 1) * 2 ^ k ≤ 128 * 2 ^ 56 := Nat.mul_le_mul (by omega) h2
      rw [Nat.add_mul, Nat.one_mul] at h3
      exact Nat.le_trans h3 (by decide)
    · have : y ≤ 1 := by omega
      have h3 : (y % 128 + 1) * 2 ^ 63 ≤ 2 * 2 ^ 63 := Nat.mul_le_mul (by omega) (Nat.le_refl _)
      rw [Nat.add_mul, Nat.one_mul] at h3
      exact Nat.le_trans h3 (by decide)
  have hlt : y % 128 * 2 ^ k < 18446744073709551616 := by have : 0 < 2 ^ k := Nat.two_pow_pos k; omega
  rw [Int.toNat_natCast]
  refine ⟨?_, by omega⟩
  rw [e1]
  have e2 : IntKind.u64.wrap ((y % 128 : Nat) : Int) = ((y % 128 : Nat) : Int) := by rw [IntKind.wrap_u64]; omega
  have e3 : IntKind.u64.wrap (((y % 128 : Nat) : Int) * 2 ^ k) = ((y % 128 * 2 ^ k : Nat) : Int) := by
    have : (((y % 128 : Nat) : Int) * 2 ^ k) = ((y % 128 * 2 ^ k : Nat) : Int) := by rw [Int.natCast_mul, Int.natCast_pow]; rfl
    rw [this, IntKind.wrap_u64]
    omega
  rw [e2, e3, u64_or_nat _ _ (by omega) hlt, shl_add _ _ _ ha]
set_option maxHeartbeats 1000000 in
set_option maxRecDepth 20000 in
theorem rplain {p : Nat} {a : Option Addr} {c : Nat} {zs : List Int} {t0 : Nat} {w : World} (h : Rd p a c zs t0 w) :
    Calls Tryz.prog 147 #[.pointer (some ⟨p, 0, none⟩)] w (RDone p a c zs (fun (x : Nat) _ v => v = .int .u64 (x : Int) ∧ x < 18446744073709551616) (plainR zs t0) w) := by
  have HR := hid h
  have HBY := hid h.hz.bytes
  clear h
  go_enter Tryz.func147, Tryz.ntmps147
  go_wp2
  go_loopw [3, 4, 5, 6] (fun n pl _ _ wr => ∃ (i t acc k : Nat), n = .int .u64 (acc : Int) ∧ pl = .int .i64 (k : Int) ∧ Hid (k = 7 * i) ∧ Hid (i ≤ 9) ∧ Hid (acc < 2 ^ k) ∧ Hid (Rd p a c zs t wr) ∧ Hid (Rn p w wr) ∧ Hid (plainF zs (10 - i) i t acc = plainR zs t0)) (fun _ pl _ _ _ => 70 - (intOf pl).toNat)
  case atStart => exact ⟨0, t0, 0, 0, rfl, rfl, rfl, Nat.zero_le _, Nat.zero_lt_one, HR, Rn.refl _ _, rfl⟩
  case round =>
    obtain ⟨i, t, acc, k, rfl, rfl, HK, HI, HA, HR, HN, HF⟩ := hrel
    have c1 := HR.out.c1
    have HX := hid (rnext HR.out)
    go_wp2_with fail
    refine HX.out.mono ?_
    rintro e w1 ⟨hn1, hr⟩
    cases hb : zs[t]? with
    | none =>
      have e1 : nextR zs t = .error (3, (zs.length : Int)) := by unfold nextR; rw [hb]
      have e2 : plainR zs t0 = .error (3, (zs.length : Int)) := by rw [← HF.out, show 10 - i = (9 - i) + 1 by have := HI.out; omega]; unfold plainF; rw [hb]
      rw [e1] at hr
      obtain rfl := hr
      exact panic_out (P := Tryz.prog) (fn := Tryz.f147) (by rw [e2]; exact ⟨HN.out.trans hn1, rfl⟩) rfl
    | some b =>
      have e1 : nextR zs t = .ok (b, t + 1) := by unfold nextR; rw [hb]
      rw [e1] at hr
      obtain ⟨_, rfl, rfl, hr1⟩ := hr
      have hbb : 0 ≤ b ∧ b < 256 := by have := HBY.out t; rw [List.getD_eq_getElem?_getD, hb, Option.getD_some] at this; exact this
      have hF := HF.out
      rw [show 10 - i = (9 - i) + 1 by have := HI.out; omega] at hF
      unfold plainF at hF
      rw [hb] at hF
      dsimp only at hF
      have BAD : Hid ((i = 9 ∧ 1 < b) ∨ (0 < i ∧ b = 0) → plainR zs t0 = .error (1, (t : Int))) := fun h => by rw [if_pos h] at hF; exact hF.symm
      have RET : Hid (¬ ((i = 9 ∧ 1 < b) ∨ (0 < i ∧ b = 0)) → b < 128 → plainR zs t0 = .ok (acc + b.toNat % 128 * 2 ^ k, t + 1)) := fun h h' => by
        rw [if_neg h, if_pos h'] at hF
        rw [HK.out, Nat.mod_eq_of_lt (by omega)]
        exact hF.symm
      have NXT : Hid (¬ ((i = 9 ∧ 1 < b) ∨ (0 < i ∧ b = 0)) → ¬ b < 128 → plainF zs (10 - (i + 1)) (i + 1) (t + 1) (acc + b.toNat % 128 * 2 ^ k) = plainR zs t0) := fun h h' => by
        rw [if_neg h, if_neg h'] at hF
        rw [HK.out, show b.toNat % 128 = b.toNat - 128 by omega, show 10 - (i + 1) = 9 - i by omega]
        exact hF
      have HR1 := hid hr1
      have HN1 := hid (HN.out.trans hn1)
      have HB := hid hbb
      have HG := hid (fun w => give_up 1 (t : Int) w)
      clear HX c1 hF hr1 hn1 HF HN hb e1 hbb HR HBY
      have VAL : Hid (¬ ((i = 9 ∧ 1 < b) ∨ (0 < i ∧ b = 0)) → bits .or .u64 (acc : Int) (IntKind.u64.wrap (IntKind.u64.wrap (bits .and .u8 b 127) * 2 ^ k)) = ((acc + b.toNat % 128 * 2 ^ k : Nat) : Int) ∧ acc + b.toNat % 128 * 2 ^ k < 18446744073709551616) := fun h => plain_val acc k b HB.out.1 HB.out.2 HA.out (by have := HK.out; have := HI.out; omega)
      have GRW : Hid (acc + b.toNat % 128 * 2 ^ k < 2 ^ (k + 7)) := by
        have h1 := HA.out
        have h2 : (b.toNat % 128 + 1) * 2 ^ k ≤ 128 * 2 ^ k := Nat.mul_le_mul (by omega) (Nat.le_refl _)
        rw [Nat.add_mul, Nat.one_mul] at h2
        rw [Hid, Nat.pow_add]
        omega
      have V63 : Hid (k = 63 → ¬ ((i = 9 ∧ 1 < b) ∨ (0 < i ∧ b = 0)) → bits .or .u64 (acc : Int) (IntKind.u64.wrap (IntKind.u64.wrap (bits .and .u8 b 127) * 9223372036854775808)) = ((acc + b.toNat % 128 * 2 ^ k : Nat) : Int)) := fun e h => by
        have h1 := (VAL.out h).1
        have e2 : (2 : Int) ^ k = 9223372036854775808 := by rw [e]; rfl
        rw [e2] at h1
        exact h1
      have hmin : min k 64 = k := Nat.min_eq_left (by have := HK.out; have := HI.out; omega)
      by_cases hb0 : b = 0
      · subst hb0
        go_wp2_with (go_at_call 75; refine (HG.out _).mono ?_; rintro e w2 ⟨rfl, rfl⟩)
        all_goals have hk := HK.out
        all_goals have hi := HI.out
        all_goals first
          | (with_reducible refine panic_out ?_ ?_
             · rw [BAD.out (by first | omega | exact .inr ⟨by omega, trivial⟩)]; exact ⟨HN1.out, rfl⟩
             · rfl)
          | (have h63 : k = 63 := by omega
             go_ret
             rw [RET.out (by omega) (by omega)]
             exact ⟨HN1.out, _, rfl, ⟨vint (V63.out h63 (by omega)), (VAL.out (by omega)).2⟩, HR1.out⟩)
          | (go_ret
             rw [RET.out (by omega) (by omega)]
             exact ⟨HN1.out, _, rfl, ⟨vint (VAL.out (by omega)).1, (VAL.out (by omega)).2⟩, HR1.out⟩)
      · have hb1 : (b == 0) = false := by simpa using hb0
        go_wp2_with (go_at_call 75; refine (HG.out _).mono ?_; rintro e w2 ⟨rfl, rfl⟩)
        all_goals have hk := HK.out
        all_goals have hi := HI.out
        all_goals first
          | (with_reducible refine panic_out ?_ ?_
             · rw [BAD.out (by first | omega | exact .inr ⟨by omega, trivial⟩)]; exact ⟨HN1.out, rfl⟩
             · rfl)
          | (have h63 : k = 63 := by omega
             go_ret
             rw [RET.out (by omega) (by omega)]
             exact ⟨HN1.out, _, rfl, ⟨vint (V63.out h63 (by omega)), (VAL.out (by omega)).2⟩, HR1.out⟩)
          | (go_ret
             rw [RET.out (by omega) (by omega)]
             exact ⟨HN1.out, _, rfl, ⟨vint (VAL.out (by omega)).1, (VAL.out (by omega)).2⟩, HR1.out⟩)
          | with_reducible exact ⟨⟨i + 1, t + 1, _, k + 7, vint (VAL.out (by omega)).1, vint (by omega), hid (by omega), hid (by omega), GRW, HR1, HN1, hid (NXT.out (by omega) (by omega))⟩, by simp only [intOf]; omega⟩
end Go.Proofs.YtedeiaokohdhpaaGreat

namespace Go.Proofs.YtedeiaokohdhpaaGreat
open Go.RowKit
def unfoldN (u : Nat) : Int := if u % 2 = 1 then -((u / 2 : Nat) : Int) - 1 else ((u / 2 : Nat) : Int)
def numR (zs : List Int) (t : Nat) : Except (Int × Int) (Int × Nat) := match plainR zs t with
  | .ok (u, t') => .ok (unfoldN u, t')
  | .error e => .error e
theorem low1 (m : Nat) (hm : m < 18446744073709551616) : bits .and .u64 (m : Int) 1 = ((m % 2 : Nat) : Int) := by
  have := u64_and (m : Int) 1 (by omega) (by omega) (by decide) (by decide)
  rw [this, Int.toNat_natCast]
  show ((m &&& 1 : Nat) : Int) = _
  rw [show (1 : Nat) = 2 ^ 1 - 1 from rfl, Nat.and_two_pow_sub_one_eq_mod]
theorem unfold_wf {u : Nat} (h : u < 18446744073709551616) : (Lit.int .i64 (unfoldN u)).wf = true := by
  have : -9223372036854775808 ≤ unfoldN u ∧ unfoldN u ≤ 9223372036854775807 := by unfold unfoldN; split <;> omega
  simpa [Lit.wf, IntKind.min, IntKind.max, IntKind.signed, IntKind.bits] using this
set_option maxHeartbeats 1000000 in
set_option maxRecDepth 20000 in
theorem rnumber {p : Nat} {a : Option Addr} {c : Nat} {zs : List Int} {t : Nat} {w : World} (h : Rd p a c zs t w) :
    Calls Tryz.prog 116 #[.pointer (some ⟨p, 0, none⟩)] w (RDone p a c zs (fun (x : Int) _ v => v = .int .i64 x ∧ (Lit.int .i64 x).wf = true) (numR zs t) w) := by
  have HP := hid (rplain h)
  clear h
  go_enter Tryz.func116, Tryz.ntmps116
  go_wp2_with fail
  refine HP.out.mono ?_
  rintro e w1 ⟨hn, hr⟩
  cases hp : plainR zs t with
  | error e =>
    have e1 : numR zs t = .error e := by unfold numR; rw [hp]
    rw [hp] at hr
    obtain rfl := hr
    exact panic_out (P := Tryz.prog) (fn := Tryz.f116) (by rw [e1]; exact ⟨hn, rfl⟩) rfl
  | ok x =>
    obtain ⟨u, t'⟩ := x
    have e1 : numR zs t = .ok (unfoldN u, t') := by unfold numR; rw [hp]
    rw [hp] at hr
    obtain ⟨_, rfl, ⟨rfl, hu⟩, hr1⟩ := hr
    have HD : Hid (∀ v, v = .int .i64 (unfoldN u) → RDone p a c zs (fun (x : Int) _ v => v = .int .i64 x ∧ (Lit.int .i64 x).wf = true) (numR zs t) w (.returned v) w1) := fun v hv => by
      rw [e1]
      exact ⟨hn, v, rfl, ⟨hv, unfold_wf hu⟩, hr1⟩
    have hl := low1 u hu
    clear HP hp hr1 hn e1
    by_cases ho : u % 2 = 1
    · have e2 : unfoldN u = -((u / 2 : Nat) : Int) - 1 := by unfold unfoldN; rw [if_pos ho]
      rw [ho] at hl
      go_wp2
      go_ret
      refine HD.out _ ?_
      rw [e2]
      refine vint ?_
      have h1 := i64_not (u / 2) (by omega)
      rw [Int.natCast_ediv] at h1
      show bits .xor .i64 (-1) ((u : Int) / ((2 : Nat) : Int)) = _
      rw [h1]
      omega
    · have e2 : unfoldN u = ((u / 2 : Nat) : Int) := by unfold unfoldN; rw [if_neg ho]
      have h0 : u % 2 = 0 := by omega
      rw [h0] at hl
      go_wp2
      go_ret
      refine HD.out _ ?_
      rw [e2]
      exact vint (by omega)
def cntR (zs : List Int) (t : Nat) : Except (Int × Int) (Nat × Nat) := match numR zs t with
  | .ok (n, t') => if n < 0 ∨ (zs.length : Int) - (t' : Int) < n then .error (2, (t : Int)) else .ok (n.toNat, t')
  | .error e => .error e
set_option maxHeartbeats 1000000 in
set_option maxRecDepth 20000 in
theorem rcount {p : Nat} {a : Option Addr} {c : Nat} {zs : List Int} {t : Nat} {w : World} (h : Rd p a c zs t w) :
    Calls Tryz.prog 146 #[.pointer (some ⟨p, 0, none⟩)] w (RDone p a c zs (fun (x : Nat) _ v => v = .int .i64 (x : Int) ∧ x ≤ zs.length) (cntR zs t) w) := by
  have HP := hid (rnumber h)
  have c1 := h.c1
  clear h
  go_enter Tryz.func146, Tryz.ntmps146
  go_wp2_with fail
  refine HP.out.mono ?_
  rintro e w1 ⟨hn, hr⟩
  cases hp : numR zs t with
  | error e =>
    have e1 : cntR zs t = .error e := by unfold cntR; rw [hp]
    rw [hp] at hr
    obtain rfl := hr
    exact panic_out (P := Tryz.prog) (fn := Tryz.f146) (by rw [e1]; exact ⟨hn, rfl⟩) rfl
  | ok x =>
    obtain ⟨n, t'⟩ := x
    have e1 : cntR zs t = if n < 0 ∨ (zs.length : Int) - (t' : Int) < n then .error (2, (t : Int)) else .ok (n.toNat, t') := by unfold cntR; rw [hp]
    rw [hp] at hr
    obtain ⟨_, rfl, ⟨rfl, hwf⟩, hr1⟩ := hr
    have k0 := hr1.c0
    have k1 := hr1.c1
    have hle := hr1.le
    have hfew := hr1.few
    have HG := hid (fun w => give_up 2 (t : Int) w)
    have HR1 := hid hr1
    have HN := hid hn
    have E1 := hid e1
    have HB : Hid (∀ k, Below w1.heap.size w1 (w1.drewN k)) := fun k => ⟨rfl, rfl, rfl, Nat.le_refl _, fun _ _ => rfl⟩
    obtain ⟨m, hm⟩ : ∃ m : Nat, m = zs.length - t' := ⟨_, rfl⟩
    have hwr : IntKind.i64.wrap ((zs.length : Int) - (t' : Int)) = (m : Int) := by rw [wrap_small _ (by omega) (by omega)]; omega
    have HM := hid hm
    have HLE := hid hle
    clear HP hp hr1 hn e1 c1 hwf hm hle hfew
    by_cases h0 : n < 0
    · have HE : Hid (∀ k, RDone p a c zs (fun (x : Nat) _ v => v = .int .i64 (x : Int) ∧ x ≤ zs.length) (cntR zs t) w (.panicked [{ v := gaveV 2 (t : Int), recovered := false }]) (w1.drewN k)) := fun k => by
        rw [E1.out, if_pos (.inl h0)]
        exact ⟨HN.out.trans (Rn.of (HB.out k)), rfl⟩
      go_wp2
      go_quiet (fail)
      go_wp2_with fail
      refine (HG.out _).mono ?_
      rintro e w2 ⟨rfl, rfl⟩
      exact panic_out (P := Tryz.prog) (fn := Tryz.f146) (HE.out _) rfl
    · by_cases h1 : (m : Int) < n
      · have HE : Hid (∀ k, RDone p a c zs (fun (x : Nat) _ v => v = .int .i64 (x : Int) ∧ x ≤ zs.length) (cntR zs t) w (.panicked [{ v := gaveV 2 (t : Int), recovered := false }]) (w1.drewN k)) := fun k => by
          rw [E1.out, if_pos (.inr (by have := HM.out; have := HLE.out; omega))]
          exact ⟨HN.out.trans (Rn.of (HB.out k)), rfl⟩
        go_wp2
        go_quiet (fail)
        go_wp2_with fail
        refine (HG.out _).mono ?_
        rintro e w2 ⟨rfl, rfl⟩
        exact panic_out (P := Tryz.prog) (fn := Tryz.f146) (HE.out _) rfl
      · have HE : Hid (∀ k, RDone p a c zs (fun (x : Nat) _ v => v = .int .i64 (x : Int) ∧ x ≤ zs.length) (cntR zs t) w (.returned (.int .i64 n)) (w1.drewN k)) := fun k => by
          rw [E1.out, if_neg (by have := HM.out; have := HLE.out; omega)]
          exact ⟨HN.out.trans (Rn.of (HB.out k)), _, rfl, ⟨vint (by omega), by have := HM.out; omega⟩, HR1.out.step (HB.out k)⟩
        go_wp2
        go_quiet (fail)
        go_wp2
        go_ret
        exact HE.out _
end Go.Proofs.YtedeiaokohdhpaaGreat
