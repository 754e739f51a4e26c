/- (*machine).send, put, tail: what goes out. -/
import Derived.Test.YtmceifkjmknjcaaVSmall
import Derived.Deep.RegionHeld3
import Derived.Deep.DeepCutAuto
import Derived.Deep.RegionLaw
import Derived.Deep.AppendLies
namespace Go.Proofs.Ytmceifkjmknjcaa
open Go.RowKit

theorem GFram.put {b : Nat} {w : World} (o : Nat) (v : Value) : GFram b w (w.setCell ⟨b, o, none⟩ v) := ⟨by rw [World.size_setCell]; exact Nat.le_refl _, fun k cs T f hk _ h => (Below.heap_setCell _ _ _ _ (by show k ≠ b; exact hk)).trans h⟩

theorem GFram.cell {p : Nat} {w w' : World} (h : GFram p w w') {g o : Nat} {cs : Array Value} {T : TypeId} {f : Nat × Nat} (hg : w.heap[g]? = some (.cells cs T f)) (hp : g ≠ p) (hT : T ≠ 5) : w'.cell? ⟨g, o, none⟩ = w.cell? ⟨g, o, none⟩ := by
  unfold World.cell?
  dsimp only
  rw [h.2 g cs T f hp hT hg, hg]

/-- what a step of the machine that ends in m' does -/
def MDone (W : World) (b : Nat) (k : MK) (m' : MD) (w : World) (v : Value) (e : Ending) (w' : World) : Prop := e = .returned v ∧ MAt W b k m' w' ∧ GFram b w w'

theorem vput_out {W : World} {b : Nat} {k : MK} {m : MD} {w w6 : World} (h : MAt W b k m w) {v v' : Value} {l : List Int} (hrow : w.ownsRow W.heap.size 5 1 v m.out.length (BB m.out)) (hg : w.grownBy w6 v.ownBlock) (ho : w6.ownsRow W.heap.size 5 1 v' (m.out.length + l.length) (BB m.out ++ BB l)) (hby : GByt l) :
    MAt W b k (m.send l) (w6.setCell ⟨b, 216, none⟩ v') ∧ w6.cell? ⟨b, 216, none⟩ = w.cell? ⟨b, 216, none⟩ ∧ w6.frozen? ⟨b, 216, none⟩ = false ∧ b < w6.heap.size := by
  obtain ⟨cs, ht⟩ := h.ty
  have h6 : w6.heap[b]? = some (.cells cs 48 (0, 0)) := (hg.block b h.lt (fun e => own_far hrow ht e.symm)).trans ht
  have hc : ∀ o, w6.cell? ⟨b, o, none⟩ = w.cell? ⟨b, o, none⟩ := fun o => by
    unfold World.cell?
    dsimp only
    rw [h6, ht]
  obtain ⟨v0, h0, _⟩ := h.ow
  have hlen : (m.out ++ l).length = m.out.length + l.length := List.length_append
  refine ⟨⟨fun i hi => vother (by omega) ((hc _).trans (h.rn i hi)), fun i hi => vother (by omega) ((hc _).trans (h.rs i hi)), fun i hi => vother (by omega) ((hc _).trans (h.sn i hi)), fun i hi => vother (by omega) ((hc _).trans (h.ss i hi)), vother (by omega) ((hc _).trans h.c0), vother (by omega) ((hc _).trans h.c1), vother (by omega) ((hc _).trans h.c2), vother (by omega) ((hc _).trans h.c3), ⟨v', vself ((hc _).trans h0), ?_⟩, vheap ⟨cs, h6⟩, h.low, ?_, h.ok.send l, ?_⟩, hc _, by simp [World.frozen?, h6], (Array.getElem?_eq_some_iff.1 h6).1⟩
  · have e : BB (m.send l).out = BB m.out ++ BB l := by simp [BB, MD.send]
    rw [e, show (m.send l).out.length = m.out.length + l.length from hlen]
    exact vrow ho ⟨cs, h6⟩
  · exact (h.bel.grown hg h.bel.size fun k hk => (own_blk hrow hk).1).setCell (p := ⟨b, 216, none⟩) h.low _
  · intro y hy
    rcases List.mem_append.1 hy with hy | hy
    · exact h.byt y hy
    · exact hby y hy

theorem own_form {w : World} {B n : Nat} {v : Value} {xs : List Value} (h : w.ownsRow B 5 1 v n xs) : ∃ a c, v = .slice a n c := by
  rcases h.2 with ⟨e, e2⟩ | ⟨g, cap, cur, e, _⟩
  · exact ⟨none, 0, by rw [e, e2]⟩
  · exact ⟨_, _, e⟩

set_option maxHeartbeats 2000000 in
set_option maxRecDepth 20000 in
theorem vsend {W : World} {b : Nat} {k : MK} {m : MD} {w : World} (h : MAt W b k m w) {ad : Option Addr} {n : Nat} (c2 : Nat) {l : List Int} (hl : Has .u8 w ad n l) (hn : ad = none → n = 0 ∧ c2 = 0) (hs : m.out.length + n ≤ 100000000) : Calls Try.prog 40 #[mptr b, .slice ad n c2] w (MDone W b k (m.send l) w (.tuple #[])) := by
  obtain ⟨v, h1, h2⟩ := h.ow
  have hbl := h.lt
  have hby : GByt l := fun x hx => by
    have := bounds_u8 (hl.2.1 x hx)
    omega
  obtain ⟨i0, hi, hz0, hz1, hz2⟩ := info_parts Try.info5
  have hll := hl.1
  obtain ⟨v', w6, hrun, ho, hg⟩ : ∃ v' w6, (Builtin.append_ #[26, 26] 26 #[v, .slice ad n c2]).run Try.prog w = .ok v' w6 ∧ w6.ownsRow W.heap.size 5 1 v' (m.out.length + n) (BB m.out ++ BB l) ∧ w.grownBy w6 v.ownBlock := by
    cases ad with
    | none =>
      obtain ⟨rfl, rfl⟩ := hn rfl
      obtain rfl : l = [] := List.eq_nil_of_length_eq_zero hll
      refine ⟨v, w, run_append_owned_none (P := Try.prog) w W.heap.size 26 26 5 i0 1 Try.underlying26 hi v m.out.length (BB m.out) h2, ?_, World.grownBy.refl _ _⟩
      simpa [BB] using h2
    | some ad =>
      obtain ⟨v', w6, hrun, ho, hg, -⟩ := run_append_own (P := Try.prog) w W.heap.size 26 26 5 i0 (.int .u8 0) 1 1 Try.underlying26 hi hz0 hz1 hz2 rfl (by decide) v m.out.length (BB m.out) h2 ad n c2 (BB l) (by simp [BB]; omega) (has_cells hl) (bb_one l) (by unfold maxLen; omega) (by omega) h.bel.size
      exact ⟨v', w6, hrun, ho, hg⟩
  rw [← hll] at ho
  obtain ⟨hM, e6, f6, l6⟩ := vput_out h h2 hg ho hby
  rw [h1] at e6
  have hfr : GFram b w (w6.setCell ⟨b, 216, none⟩ v') := GFram.trans ⟨hg.size, fun j cs T f _ hT hj => (hg.block j (Array.getElem?_eq_some_iff.1 hj).1 (fun e => by
    obtain ⟨_, cur, hh⟩ := own_blk h2 e.symm
    rw [hj] at hh
    simp only [Option.some.injEq, Obj.cells.injEq] at hh
    exact hT hh.2.1)).trans hj⟩ (GFram.put 216 v')
  obtain ⟨va, vc, rfl⟩ := own_form h2
  obtain ⟨va', vc', rfl⟩ := own_form ho
  have HD : Hid (MDone W b k (m.send l) w (.tuple #[]) (.returned (.tuple #[])) (w6.setCell ⟨b, 216, none⟩ (.slice va' (m.out.length + l.length) vc'))) := ⟨rfl, hM, hfr⟩
  clear h h2 hl hn hs hby ho hg hM hll hi hz0 hz1 hz2 hfr
  go_enter Try.func40, Try.ntmps40
  go_wp2_with (at_builtin; refine gapp_run rfl _ _ rfl rfl rfl hrun ?_)
  go_end0
  exact HD.out

/-- the low 'size' bytes of n, the uppermost first -/
def vbytes (n : Nat) : Nat → List Int
  | 0 => []
  | s + 1 => ((n / 2 ^ (8 * s) % 256 : Nat) : Int) :: vbytes n s

theorem vbytes_len (n : Nat) : ∀ s, (vbytes n s).length = s
  | 0 => rfl
  | s + 1 => by rw [vbytes, List.length_cons, vbytes_len n s]

theorem send_send (m : MD) (a c : List Int) : (m.send a).send c = m.send (a ++ c) := by simp [MD.send]

set_option maxHeartbeats 2000000 in
set_option maxRecDepth 20000 in
theorem vput {W : World} {b : Nat} {k : MK} {m : MD} {w : World} (h : MAt W b k m w) (n size : Nat) (hz : size ≤ 8) (hs : m.out.length ≤ 90000000) : Calls Try.prog 25 #[mptr b, .int .u64 (n : Int), .int .i64 (size : Int)] w (MDone W b k (m.send (vbytes n size)) w (.tuple #[])) := by
  have HS : Hid (∀ (m' : MD) (w' : World) (x : Int), MAt W b k m' w' → 0 ≤ x ∧ x < 256 → m'.out.length ≤ 95000000 → Calls Try.prog 40 #[mptr b, .slice (some ⟨w'.heap.size, 0, none⟩) 1 1] (w'.alloc (.cells #[.int .u8 x] 5)) (MDone W b k (m'.send [x]) (w'.alloc (.cells #[.int .u8 x] 5)) (.tuple #[]))) := fun m' w' x hm hx hl => vsend (hm.step (bl_alloc (Below.refl _ _))) 1 ⟨rfl, by intro y hy; simp only [List.mem_cons, List.not_mem_nil, or_false] at hy; rw [hy]; exact wf_u8 x hx, .inr ⟨w'.heap.size, 0, rfl, by simp, fun i hi => by
    obtain rfl : i = 0 := by omega
    simp⟩⟩ (by simp) (by show m'.out.length + 1 ≤ _; omega)
  have HM := hid h
  have HL := hid hs
  have hw := gwrap_i ((size : Int) - 1) (by omega) (by omega)
  have HV : Hid (∀ i : Nat, i < 8 → IntKind.u8.wrap ((n : Int) / 2 ^ (8 * i)) = ((n / 2 ^ (8 * i) % 256 : Nat) : Int)) := fun i _ => by
    show IntKind.u8.wrap ((n : Int) / 2 ^ (8 * i)) = _
    rw [← gwrap8]
    congr 1
  clear h hs
  go_enter Try.func25, Try.ntmps25
  go_wp2
  go_loopw [6] (fun q wr => ∃ (i : Nat) (m' : MD), i ≤ size ∧ q = .int .i64 ((i : Int) - 1) ∧ Hid (m'.send (vbytes n i) = m.send (vbytes n size)) ∧ Hid (m'.out.length + i = m.out.length + size) ∧ Hid (MAt W b k m' wr) ∧ Hid (GFram b w wr)) (fun q _ => (intOf q + 1).toNat)
  case atStart => exact ⟨size, m, Nat.le_refl _, rfl, rfl, rfl, HM, GFram.refl _ _⟩
  case round =>
    obtain ⟨i, m', hi, rfl, HE, HLn, HMr, HZ⟩ := hrel
    cases i with
    | zero =>
      have HD : Hid (MDone W b k (m.send (vbytes n size)) w (.tuple #[]) (.returned (.tuple #[])) wr) := by
        refine ⟨rfl, ?_, HZ.out⟩
        rw [← HE.out]
        show MAt W b k { m' with out := m'.out ++ [] } wr
        rw [List.append_nil]
        exact HMr.out
      go_wp2
      go_end0
      exact HD.out
    | succ j =>
      have e1 : ((j + 1 : Nat) : Int) - 1 = (j : Int) := by omega
      rw [e1]
      have hj : (0 : Int) ≤ (j : Int) := by omega
      have hw8 := gwrap_i (8 * (j : Int)) (by omega) (by omega)
      have hx : 0 ≤ ((n / 2 ^ (8 * j) % 256 : Nat) : Int) ∧ ((n / 2 ^ (8 * j) % 256 : Nat) : Int) < 256 := by omega
      have HV' := HV.out j (by omega)
      have HS2 := hid (HS.out m' wr _ HMr.out hx (by have := HLn.out; have := HL.out; omega))
      have ex : ((n / 2 ^ (8 * j) % 256 : Nat) : Int) = (n : Int) / 2 ^ (8 * j) % 256 := by simp
      have HE2 : Hid ((m'.send [((n / 2 ^ (8 * j) % 256 : Nat) : Int)]).send (vbytes n j) = m.send (vbytes n size)) := by
        show _ = _
        rw [send_send, ← HE.out]
        rfl
      have HLn2 : Hid ((m'.send [((n / 2 ^ (8 * j) % 256 : Nat) : Int)]).out.length + j = m.out.length + size) := by
        have := HLn.out
        show (m'.out ++ [_]).length + j = _
        rw [List.length_append]
        simp only [List.length_cons, List.length_nil]
        omega
      rw [ex] at HS2 HE2 HLn2
      have EX := hid ex
      clear hx ex HE HLn HMr
      go_wp2_with fail
      refine HS2.out.mono ?_
      rintro e w2 ⟨rfl, hm2, hz2⟩
      have HM2 := hid hm2
      have HZ2 : Hid (GFram b w w2) := HZ.out.trans ((GFram.below (bl_alloc (Below.refl _ _))).trans hz2)
      have hw1 := gwrap_i ((j : Int) - 1) (by omega) (by omega)
      clear hm2 hz2 HS2 HZ EX HV'
      go_wp2
      go_roundw
      case rel => exact ⟨j, _, by omega, by go_num, HE2, HLn2, HM2, HZ2⟩
      case measure => simp [intOf]

theorem Has.back {k : IntKind} {w : World} {ad : Addr} {len : Nat} {zs : List Int} (h : Has k w (Option.some ad) len zs) (f : Nat) (hf : f ≤ len) : Has k w (Option.some (ad.add f)) (len - f) (zs.drop f) := by
  refine ⟨by rw [List.length_drop, h.1], fun x hx => h.2.1 x (List.mem_of_mem_drop hx), ?_⟩
  by_cases h0 : f = len
  · exact .inl (List.drop_eq_nil_of_le (by rw [h.1]; omega))
  · obtain ⟨b, off, e, hlt, hc⟩ := h.some (by omega)
    simp only [Option.some.injEq] at e
    subst e
    refine .inr ⟨b, off + f, by rw [Addr.add_lit], hlt, fun i hi => ?_⟩
    rw [show off + f + i = off + (f + i) by omega, hc (f + i) (by omega)]
    simp only [List.getD_eq_getElem?_getD, List.getElem?_drop]

set_option maxHeartbeats 2000000 in
set_option maxRecDepth 20000 in
theorem vtail {W : World} {b : Nat} {k : MK} {m : MD} {w : World} (h : MAt W b k m w) (hk : Has .u8 W k.pk.a k.pk.n k.zs) (hnil : k.pk.nil0) (hp : k.pk.n ≤ 600) (hc : k.pk.n ≤ k.pk.c) (f : Nat) (hf : f < 18446744073709551616) (hs : m.out.length ≤ 90000000) :
    Calls Try.prog 27 #[mptr b, .int .u64 (f : Int)] w (MDone W b k (if f ≤ k.pk.n then m.send (k.zs.drop f) else m) w (.int .i64 (if f ≤ k.pk.n then 0 else 16))) := by
  have HR := hid (vroom h hp f 0 hf)
  have hkw := hk.step h.bel
  by_cases hle : f ≤ k.pk.n
  · have e0 : roomB k.pk.n f 0 = true := by unfold roomB; simp [hle]
    rw [e0] at HR
    rw [if_pos hle, if_pos hle]
    have hh := h.c2
    have hbl := h.lt
    have hlz := hkw.1
    have HM := hid h
    obtain ⟨⟨a, n, c⟩, hpk⟩ : ∃ q, q = k.pk := ⟨_, rfl⟩
    have HPK := hid hpk
    rw [← hpk] at hh hkw hnil hp hc hle
    clear hpk h hk e0
    dsimp only at *
    have hfi : (f : Int) ≤ (n : Int) := by omega
    have fin : ∀ (w3 : World), MDone W b k (m.send (k.zs.drop f)) w (.tuple #[]) (.returned (.tuple #[])) w3 → MDone W b k (m.send (k.zs.drop f)) w (.int .i64 0) (.returned (.int .i64 0)) w3 := fun _ h => ⟨rfl, h.2⟩
    have FIN := hid fin
    cases a with
    | none =>
      obtain ⟨rfl, rfl⟩ := hnil rfl
      obtain rfl : f = 0 := by omega
      have HS := hid (vsend HM.out 0 hkw (fun _ => ⟨rfl, rfl⟩) (by omega))
      rw [List.drop_zero] at FIN ⊢
      clear fin hkw hnil hs hc hp HM HPK
      go_enter Try.func27, Try.ntmps27
      go_wp2_with fail
      refine HR.out.mono ?_
      rintro e w2 ⟨rfl, rfl⟩
      clear HR
      go_wp2_with fail
      refine HS.out.mono ?_
      rintro e w3 ⟨rfl, hd⟩
      have HD := hid (FIN.out _ ⟨rfl, hd⟩)
      clear FIN hd HS
      go_wp2
      go_ret
      exact HD.out
    | some ad =>
      by_cases hcf : c = f
      · have e0 : k.zs.drop f = [] := List.drop_eq_nil_of_le (by rw [hkw.1]; omega)
        rw [e0] at FIN ⊢
        have hnf : n - f = 0 := by omega
        have hcf0 : c - f = 0 := by omega
        have HS := hid (vsend HM.out (ad := some ad) (n := 0) 0 (l := []) ⟨rfl, by simp, .inl rfl⟩ (fun h => by cases h) (by omega))
        subst hcf
        have HNF := hid hnf
        clear fin hkw hnil hs hc hp HM HPK e0 hnf hlz
        go_enter Try.func27, Try.ntmps27
        go_wp2_with fail
        refine HR.out.mono ?_
        rintro e w2 ⟨rfl, rfl⟩
        clear HR
        go_wp2_with fail
        rw [HNF.out]
        first | refine HS.out.mono ?_ | (rw [hcf0]; refine HS.out.mono ?_)
        rintro e w3 ⟨rfl, hd⟩
        have HD := hid (FIN.out _ ⟨rfl, hd⟩)
        clear FIN hd HS
        go_wp2
        go_ret
        exact HD.out
      · have HS := hid (vsend HM.out (c - f) (hkw.back f hle) (fun h => by cases h) (by omega))
        clear fin hkw hnil hs hc hp HM HPK hlz
        go_enter Try.func27, Try.ntmps27
        go_wp2_with fail
        refine HR.out.mono ?_
        rintro e w2 ⟨rfl, rfl⟩
        clear HR
        go_wp2_with fail
        refine HS.out.mono ?_
        rintro e w3 ⟨rfl, hd⟩
        have HD := hid (FIN.out _ ⟨rfl, hd⟩)
        clear FIN hd HS
        go_wp2
        go_ret
        exact HD.out
  · have e0 : roomB k.pk.n f 0 = false := by unfold roomB; simp [hle]
    rw [e0] at HR
    rw [if_neg hle, if_neg hle]
    have HM := hid h
    clear h hkw hk hnil
    go_enter Try.func27, Try.ntmps27
    go_wp2_with fail
    refine HR.out.mono ?_
    rintro e w2 ⟨rfl, rfl⟩
    go_wp2
    go_ret
    exact ⟨rfl, HM.out, GFram.refl _ _⟩
end Go.Proofs.Ytmceifkjmknjcaa
