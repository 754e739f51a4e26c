/- Texts of one chain, joined: SLen, MFirst. -/
import Derived.Test.YtffbnggdckjogaaGreatG34
import Derived.Test.YtffbnggdckjogaaGreatG27
import Derived.Test.YtffbnggdckjogaaGreatG41
import Derived.Test.YtffbnggdckjogaaGreatG21
import Derived.Test.YtffbnggdckjogaaGreatG47
import Derived.Deep.CutRange
namespace Go.Proofs.YtffbnggdckjogaaGreat
open Go.RowKit Mth
set_option maxHeartbeats 1000000 in
set_option maxRecDepth 20000 in
theorem plen_any {w : World} {B : Nat → Prop} {p : Nat} {wd most : Int} {C : Told2} {es : List (Nat × Nat)} (t : Tab w B p wd most C es) :
    Calls Tryz.prog 100 #[.pointer (some ⟨p, 0, none⟩)] w fun r w' => r = .returned (.int .i64 es.length) ∧ w' = w := by
  have c2 := t.hd.c2
  clear t
  go_enter Tryz.func100, Tryz.ntmps100
  go_wp2
  go_ret
  exact ⟨rfl, rfl⟩
theorem face1_len {w : World} {k : FK} {s : FSt} (hk : k.kind = 1) (h : FaceAt w k s) : Calls Tryz.prog 59 #[.pointer (some ⟨k.p, 0, none⟩)] w fun r w' => r = .returned (.int .i64 (faceLen k s)) ∧ w' = w := by
  have e : faceLen k s = s.ss.length := by unfold faceLen; rw [if_pos hk]
  rw [e]
  rcases h with ⟨_, t, _⟩ | ⟨e, _⟩ | ⟨e, _⟩
  · exact Ex.len_any t
  · omega
  · omega
theorem face2_len {w : World} {k : FK} {s : FSt} (hk : k.kind = 2) (h : FaceAt w k s) : Calls Tryz.prog 100 #[.pointer (some ⟨k.p, 0, none⟩)] w fun r w' => r = .returned (.int .i64 (faceLen k s)) ∧ w' = w := by
  have e : faceLen k s = s.es.length := by unfold faceLen; rw [if_neg (by omega), if_pos hk]
  rw [e]
  rcases h with ⟨e, _⟩ | ⟨_, t, _⟩ | ⟨e, _⟩
  · omega
  · exact plen_any t
  · omega
theorem face3_len {w : World} {k : FK} {s : FSt} (hk : k.kind = 3) (h : FaceAt w k s) : Calls Tryz.prog 119 #[.pointer (some ⟨k.p, 0, none⟩)] w fun r w' => r = .returned (.int .i64 (faceLen k s)) ∧ w' = w := by
  have e : faceLen k s = s.T.length := by unfold faceLen; rw [if_neg (by omega), if_neg (by omega)]
  rw [e]
  rcases h with ⟨e, _⟩ | ⟨e, _⟩ | ⟨_, t, _⟩
  · omega
  · omega
  · exact mlen_any t
def GreatDone (t : TabD) (wn an : Nat) (al : List ActD) (w : World) (e : Ending) (w' : World) : Prop := Below w.heap.size w w' ∧ ∃ b : Bool, e = .returned (.bool b) ∧ (b = false → t.acts.n ≤ 50 ∧ t.args.n ≤ 50 ∧ wn ≤ 50 ∧ an ≤ 50 ∧ ∀ x ∈ al, x.w.n ≤ 50)
set_option maxHeartbeats 2000000 in
set_option maxRecDepth 20000 in
theorem tgreat (t : TabD) (wa : Option Addr) (wn wc : Nat) (aq : QSl) (al : List ActD) (w : World) (ha : QRow 2 ActD.lie w aq al) :
    Calls Tryz.prog 5 #[t.v', .slice wa wn wc, .slice aq.a aq.n aq.c] w (GreatDone t wn aq.n al w) := by
  obtain ⟨W1, hW⟩ : ∃ W1, W1 = w.alloc t.box' := ⟨_, rfl⟩
  obtain ⟨tb, etb⟩ : ∃ b, b = w.heap.size := ⟨_, rfl⟩
  have b1 : Below w.heap.size w W1 := by rw [hW]; exact bl_alloc (Below.refl _ _)
  have z2 : W1.cell? ⟨tb, 2, none⟩ = some (.slice t.acts.a t.acts.n t.acts.c) := by rw [hW, etb]; exact (World.cell?_alloc_at _ _ _ _ rfl).trans rfl
  have z5 : W1.cell? ⟨tb, 5, none⟩ = some (.slice t.args.a t.args.n t.args.c) := by rw [hW, etb]; exact (World.cell?_alloc_at _ _ _ _ rfl).trans rfl
  have HA := hid (ha.step ActD.keeps b1)
  have HLEN := hid ha.1
  have HB := hid b1
  have EW := hid hW
  have ET := hid etb
  have HY : Hid (∀ w', Below w.heap.size w w' → GreatDone t wn aq.n al w (.returned (.bool true)) w') := fun w' hb => ⟨hb, true, rfl, fun h => by cases h⟩
  clear hW etb ha b1
  go_enter Tryz.func5, Tryz.ntmps5
  go_upto_region 1 with fail
  rw [← EW.out, ← ET.out]
  clear EW ET
  by_cases h1 : (50 : Int) < (t.acts.n : Int)
  · go_wp2
    go_ret
    exact HY.out _ HB.out
  by_cases h2 : (50 : Int) < (t.args.n : Int)
  · go_wp2
    go_ret
    exact HY.out _ HB.out
  by_cases h3 : (50 : Int) < (wn : Int)
  · go_wp2
    go_ret
    exact HY.out _ HB.out
  by_cases h4 : (50 : Int) < (aq.n : Int)
  · go_wp2
    go_ret
    exact HY.out _ HB.out
  have HN : Hid (t.acts.n ≤ 50 ∧ t.args.n ≤ 50 ∧ wn ≤ 50 ∧ aq.n ≤ 50) := ⟨by omega, by omega, by omega, by omega⟩
  go_wp2
  clear h1 h2 h3 z2 z5
  go_loop [7] (fun q => ∃ k : Nat, k ≤ aq.n ∧ q = .int .i64 k ∧ Hid (∀ i d, i < k → al[i]? = some d → d.w.n ≤ 50)) (fun q => aq.n - (intOf q).toNat)
  case atStart => exact ⟨0, Nat.zero_le _, rfl, fun i d hi => absurd hi (Nat.not_lt_zero _)⟩
  case round =>
    obtain ⟨k, hk, rfl, hsm⟩ := hrel
    by_cases hlt : k < aq.n
    · have hd : al[k]? = some (al[k]'(by rw [HLEN.out]; exact hlt)) := List.getElem?_eq_getElem _
      obtain ⟨g, off, ea, hp⟩ := HA.out.2 k _ hd
      have HD := hid hd
      clear hd
      generalize al[k]'(by rw [HLEN.out]; exact hlt) = d at *
      have c0 := hp.1.1
      rw [ea]
      have hki : (k : Int) < (aq.n : Int) := by omega
      clear hp
      by_cases e1 : (50 : Int) < (d.w.n : Int)
      · go_wp2
        go_ret
        exact HY.out _ HB.out
      · have HE := hid e1
        go_wp2
        go_round
        case rel => exact ⟨k + 1, by omega, by go_num, fun i d' hi hd' => by
          by_cases e : i = k
          · subst e
            have e' : d = d' := by simpa using HD.out.symm.trans hd'
            subst e'
            have := HE.out
            omega
          · exact hsm.out i d' (by omega) hd'⟩
        case measure => simp [intOf]; omega
    · have hki : ¬ (k : Int) < (aq.n : Int) := by omega
      go_wp2
      go_ret
      exact ⟨HB.out, false, rfl, fun _ => ⟨HN.out.1, HN.out.2.1, HN.out.2.2.1, HN.out.2.2.2, fun d hd => by
        obtain ⟨i, hi, rfl⟩ := List.getElem_of_mem hd
        have := HLEN.out
        exact hsm.out i _ (by omega) (List.getElem?_eq_getElem hi)⟩⟩
end Go.Proofs.YtffbnggdckjogaaGreat

namespace Go.Proofs.YtffbnggdckjogaaGreat
open Go.RowKit Mth
def SD.md (d : SD) : MD := ⟨d.ka, d.kn, d.kc, d.ma, d.mn, d.mc, d.ln, d.pr, d.ac, d.a, d.n, d.c⟩
def SD.te (d : SD) : TE := ⟨d.ks, d.ms, d.pr, d.ac, d.xs⟩
theorem SD.ok.good {d : SD} {w : World} (h : d.ok w) (hs : d.small) : d.md.good w d.te := by
  obtain ⟨h0, h1, h2, h3, h4, h5⟩ := h
  obtain ⟨s1, s2, s3⟩ := hs
  exact ⟨h0, Nat.le_trans s1 (by omega), h1, h2, Nat.le_trans s2 (by omega), h3, rfl, rfl, h4, Nat.le_trans s3 (by omega), h5⟩
def MPh (w : World) (p : Nat) (keys most : Int) (k : Nat) (wr : World) : Prop := (∃ T, MTab wr w.heap.size p keys most T ∧ T.length ≤ k) ∧ Below w.heap.size w wr
theorem MPh.next {w wr w6 : World} {p : Nat} {keys most : Int} {k : Nat} {T : List TE} (h : Below w.heap.size w wr) (t : MTo wr w6 w.heap.size p keys most T) (hl : T.length ≤ k + 1) : MPh w p keys most (k + 1) w6 := ⟨⟨T, t.t, hl⟩, h.trans t.bel⟩
end Go.Proofs.YtffbnggdckjogaaGreat
