/- Texts of one chain, joined: STab, SNew0. -/
import Derived.Test.YtffbnggdckjogaaGreatG30
import Derived.Test.YtffbnggdckjogaaGreatG49
import Derived.Test.YtffbnggdckjogaaGreatG37
namespace Go.Proofs.YtffbnggdckjogaaGreat
open Go.RowKit Mth
def FSt.none : FSt := ⟨fun _ => Option.none, [], fun _ _ => Option.none, [], []⟩
structure NewFace (t : TabD) (wl : List Int) (B : Nat) (k : FK) : Prop where
  kind : k.kind = t.kind
  B : k.B = B
  K : t.kind = 1 → (k.K = wl.length ∧ (k.M : Int) = t.cap)
  wd : t.kind = 2 → (k.wd = wl.getD 0 0 ∧ k.most = t.cap)
  keys : t.kind = 3 → (k.keys = wl.length ∧ k.most = t.cap)
def NewAt (w : World) (k : FK) : Prop := FaceAt w k FSt.none ∧ (k.kind = 2 → k.Z = fun j => j < w.heap.size ∧ j ≠ k.p)
set_option maxHeartbeats 1000000 in
set_option maxRecDepth 20000 in
theorem stableOf (t : TabD) (wq : QSl) (wl : List Int) (w : World) (hw : Has .i64 w wq.a wq.n wl) (hk : t.kind = 1 ∨ t.kind = 2 ∨ t.kind = 3) (h1 : 1 ≤ wq.n) (h2 : wq.n ≤ 1000) (hc : 0 ≤ t.cap ∧ t.cap ≤ 100000) :
    Calls Tryz.prog 15 #[t.v', .slice wq.a wq.n wq.c] w fun r w' => ∃ k, r = .returned (faceV k) ∧ NewFace t wl w.heap.size k ∧ NewAt w' k ∧ Below w.heap.size w w' := by
  obtain ⟨W1, hW1⟩ : ∃ W1, W1 = w.alloc t.box' := ⟨_, rfl⟩
  obtain ⟨tb, htb⟩ : ∃ b, b = w.heap.size := ⟨_, rfl⟩
  have b1 : Below w.heap.size w W1 := by rw [hW1]; exact bl_alloc (Below.refl _ _)
  have c0 : W1.cell? ⟨tb, 0, none⟩ = some (.int .i64 t.kind) := by rw [hW1, htb]; simp
  have c3 : W1.cell? ⟨tb, 3, none⟩ = some (.int .i64 t.cap) := by rw [hW1, htb]; simp
  have htl : tb < W1.heap.size := World.block_lt_of_cell? _ _ c0
  have hl : wl.length = wq.n := hw.1
  have EW := hid hW1
  have EB := hid htb
  have HB := hid b1
  have hsz : W1.heap.size = w.heap.size + 1 := by rw [hW1]; simp
  have HSZ := hid hsz
  obtain ⟨kg, ko, ea, hkl, hcs⟩ := (hw.step b1).some (by omega)
  have k0 := hcs 0 (by omega)
  rw [Nat.add_zero] at k0
  have hn1 : (0 : Int) < (wq.n : Int) := by omega
  have HL := hid hl
  have HC := hid hc
  rcases hk with hk | hk | hk
  · have HN := hid (Ex.new_any wq.n t.cap W1)
    have hcm : (min (max t.cap 0) 100000).toNat = t.cap.toNat := by omega
    rw [hcm] at HN
    rw [hk] at c0
    have HK := hid hk
    have HH2 := hid h2
    clear hW1 htb b1 hw hsz hl hc hcm hcs k0 hkl ea hk h1 h2
    go_enter Tryz.func15, Tryz.ntmps15
    go_upto_region 1 with fail
    rw [← EW.out, ← EB.out]
    clear EW EB
    go_wp2_with fail
    refine HN.out.mono ?_
    rintro r w2 ⟨rfl, t2, b2⟩
    obtain ⟨p, hp⟩ : ∃ p, p = W1.heap.size + 1 := ⟨_, rfl⟩
    rw [← hp] at t2 ⊢
    have HD : Hid (∃ k, Ending.returned (.iface 79 (.agg #[.pointer (some ⟨p, 0, none⟩)])) = .returned (faceV k) ∧ NewFace t wl w.heap.size k ∧ NewAt w2 k ∧ Below w.heap.size w w2) := by
      have e1 := HSZ.out
      have e2 := HC.out
      have e3 := HL.out
      have e4 := HH2.out
      refine ⟨⟨1, w.heap.size, p, W1.heap.size, wq.n, t.cap.toNat, 0, 0, 0, fun _ => False⟩, rfl, ⟨HK.out.symm, rfl, fun _ => ⟨e3.symm, by show ((t.cap.toNat : Nat) : Int) = _; omega⟩, fun h => ?_, fun h => ?_⟩, ⟨.inl ⟨rfl, t2, by show w.heap.size ≤ W1.heap.size; omega, e4, by show t.cap.toNat ≤ 100000; omega⟩, fun h => absurd (show (1 : Int) = 2 from h) (by decide)⟩, bl_step HB.out b2⟩
      · have := HK.out; omega
      · have := HK.out; omega
    clear t2 b2 hp HN HK HSZ HC HL HB
    go_wp2
    go_ret
    exact HD.out
  · have HN := hid (fun w' => new_any (wl.getD 0 0) t.cap w' (fun j => j < w'.heap.size) (Nat.lt_irrefl _) (fun k hk => Nat.lt_succ_of_lt hk))
    rw [hk] at c0
    have HK := hid hk
    have c3' := cell_by c3
    have k0' := cell_by k0
    rw [ea]
    clear hW1 htb b1 hw hsz hl hc hcs hk h1 h2 ea
    generalize hx : wl.getD 0 0 = x at *
    haveI inhB : ∀ w : World, Inhabited (BelowBy w) := fun w => ⟨⟨w, Below.refl _ _⟩⟩
    go_enter Tryz.func15, Tryz.ntmps15
    go_upto_region 1 with fail
    rw [← EW.out, ← EB.out]
    clear EW EB
    go_wp2_with fail
    refine wp_region_cutQ 5 (by kernel_rfl) (by kernel_rfl) ?_
    simp only [List.take_succ_cons, List.take_zero]
    repeat (go_big_quiet_step (fail))
    refine wpQuiet_nil ?_
    intro wq2 hw'
    obtain ⟨⟨_, hwq⟩, hw''⟩ := hw'
    subst hw''
    simp only [List.drop_succ_cons, List.drop_zero]
    have HN2 := hid (HN.out wq2)
    have HB2 := hid (bl_step HB.out hwq)
    clear hwq HN c3 c3' k0 k0'
    go_wp2_with fail
    refine HN2.out.mono ?_
    rintro r w2 ⟨rfl, t2, b2, hs2⟩
    obtain ⟨p, hp⟩ : ∃ p, p = wq2.heap.size := ⟨_, rfl⟩
    rw [← hp] at t2 hs2 ⊢
    have hwp : w.heap.size ≤ p := by rw [hp]; exact HB2.out.size
    have HD : Hid (∃ k, Ending.returned (.iface 83 (.agg #[.pointer (some ⟨p, 0, none⟩)])) = .returned (faceV k) ∧ NewFace t wl w.heap.size k ∧ NewAt w2 k ∧ Below w.heap.size w w2) := by
      refine ⟨⟨2, w.heap.size, p, 0, 0, 0, x, 0, t.cap, fun j => j < w2.heap.size ∧ j ≠ p⟩, rfl, ⟨HK.out.symm, rfl, fun h => ?_, fun _ => ⟨hx.symm, rfl⟩, fun h => ?_⟩, ⟨.inr (.inl ⟨rfl, (by rw [show (fun j => j < w2.heap.size ∧ j ≠ p) = (fun j => j < p) from funext fun j => propext (by rw [hs2]; omega)]; exact t2), Nat.zero_le _, HC.out.2, fun j hj => by change j < w.heap.size at hj; show j < w2.heap.size ∧ j ≠ p; rw [hs2]; exact ⟨by omega, by omega⟩⟩), fun _ => rfl⟩, bl_step HB2.out b2⟩
      · have := HK.out; omega
      · have := HK.out; omega
    clear t2 b2 hp hs2 hwp HN2 HK HSZ HC HL HB HB2
    go_wp2
    go_ret
    exact HD.out
  · have HN := hid (mnew_any wq.n t.cap W1 w.heap.size (by omega))
    rw [hk] at c0
    have HK := hid hk
    clear hW1 htb b1 hw hsz hl hc hcs k0 hkl ea hk h1 h2
    go_enter Tryz.func15, Tryz.ntmps15
    go_upto_region 1 with fail
    rw [← EW.out, ← EB.out]
    clear EW EB
    go_wp2_with fail
    refine HN.out.mono ?_
    rintro r w2 ⟨rfl, t2, b2⟩
    obtain ⟨p, hp⟩ : ∃ p, p = W1.heap.size := ⟨_, rfl⟩
    rw [← hp] at t2 ⊢
    have HD : Hid (∃ k, Ending.returned (.iface 84 (.pointer (some ⟨p, 0, none⟩))) = .returned (faceV k) ∧ NewFace t wl w.heap.size k ∧ NewAt w2 k ∧ Below w.heap.size w w2) := by
      have e3 := HL.out
      refine ⟨⟨3, w.heap.size, p, 0, 0, 0, 0, wq.n, t.cap, fun _ => False⟩, rfl, ⟨HK.out.symm, rfl, fun h => ?_, fun h => ?_, fun _ => ⟨by show (wq.n : Int) = _; omega, rfl⟩⟩, ⟨.inr (.inr ⟨rfl, t2, Nat.zero_le _, HC.out.2⟩), fun h => absurd (show (3 : Int) = 2 from h) (by decide)⟩, bl_step HB.out b2⟩
      · have := HK.out; omega
      · have := HK.out; omega
    clear t2 b2 hp HN HK HSZ HC HL HB
    go_wp2
    go_ret
    exact HD.out
end Go.Proofs.YtffbnggdckjogaaGreat

namespace Go.Proofs.YtffbnggdckjogaaGreat
open Go.RowKit Mth
@[reducible] def zoneN (w : World) (p : Nat) : Nat → Prop := fun j => j < w.heap.size ∧ j ≠ p
theorem NewAt.face {w w' : World} {k : FK} (h : NewAt w k) (hb : Below w.heap.size w w') : FaceAt w' (k.at (zoneN w' k.p)) FSt.none := by
  rcases h.1 with ⟨e, t, r⟩ | ⟨e, t, h1, h2, h3⟩ | ⟨e, t, r⟩
  · exact .inl ⟨e, t.step hb, r⟩
  · refine .inr (.inl ⟨e, t.beside (moved_below hb) (fun j hj _ => hb.block j hj) (fun j hj => ⟨hj.1, fun hw => by rw [h.2 e]; exact ⟨hw, hj.2⟩⟩), h1, h2, fun j hj => ?_⟩)
    have := h3 j hj
    rw [h.2 e] at this
    exact ⟨Nat.lt_of_lt_of_le this.1 hb.size, this.2⟩
  · exact .inr (.inr ⟨e, t.step hb, r⟩)
theorem fown_from {w : World} {k : FK} {f : FSt} (h : FaceAt w k f) {j : Nat} (o : Own w k j) : k.B ≤ j := by
  rcases h with ⟨e, t, h1, _⟩ | ⟨e, t, _, _, h3⟩ | ⟨e, t, _⟩
  · rcases o with ⟨_, o⟩ | ⟨e', _⟩ | ⟨e', _⟩
    · omega
    · omega
    · omega
  · rcases o with ⟨e', _⟩ | ⟨_, o⟩ | ⟨e', _⟩
    · omega
    · rcases Nat.lt_or_ge j k.B with h | h
      · exact absurd (h3 j h) o
      · exact h
    · omega
  · rcases o with ⟨e', _⟩ | ⟨e', _⟩ | ⟨_, o⟩
    · omega
    · omega
    rcases o with o | ⟨m, c, o⟩
    · have := t.base
      omega
    · obtain ⟨la, cap, h2, hrow⟩ := t.lst
      rw [h2] at o
      simp only [Option.some.injEq, Value.slice.injEq] at o
      exact (hrow.lt j o.1).1
theorem own_far {w w0 : World} {k : FK} (h : NewAt w0 k) (hb : Below w0.heap.size w0 w) {g : Nat} (hg : w0.heap.size ≤ g) (hw : g < w.heap.size) : ¬ Own w (k.at (zoneN w k.p)) g := by
  intro o
  rcases h.1 with ⟨e, t, _⟩ | ⟨e, t, _⟩ | ⟨e, t, _⟩
  · rcases o with ⟨_, o⟩ | ⟨e', _⟩ | ⟨e', _⟩
    · obtain ⟨es, cl, hm⟩ := t.isMap
      have := (Array.getElem?_eq_some_iff.1 hm).1
      change g = k.b at o
      omega
    · change k.kind = 2 at e'; omega
    · change k.kind = 3 at e'; omega
  · rcases o with ⟨e', _⟩ | ⟨_, o⟩ | ⟨e', _⟩
    · change k.kind = 1 at e'; omega
    · have hp : k.p < w0.heap.size := World.block_lt_of_cell? _ _ t.hd.c0
      exact o ⟨hw, by omega⟩
    · change k.kind = 3 at e'; omega
  · rcases o with ⟨e', _⟩ | ⟨e', _⟩ | ⟨_, o⟩
    · change k.kind = 1 at e'; omega
    · change k.kind = 2 at e'; omega
    have hp : k.p < w0.heap.size := World.block_lt_of_cell? _ _ t.c0
    rcases o with o | ⟨m, c, o⟩
    · change g = k.p at o; omega
    · obtain ⟨la, cap, h2, _, hr⟩ := t.lst
      rw [hb.cell (p := ⟨k.p, 2, none⟩) hp, h2] at o
      simp only [Option.some.injEq, Value.slice.injEq] at o
      obtain ⟨a, m', c', hc'⟩ := hr g o.1
      have : g < w0.heap.size := World.block_lt_of_cell? _ _ hc'
      omega
theorem ints_mask {w w5 : World} {F : Nat → Prop} {B : Nat} (hF : ∀ g, B ≤ g → g < w5.heap.size → ¬ F g) (hb5 : Below w5.heap.size w5 w) {wa : Option Addr} {n wc : Nat} {wl : List Int} (ho : w5.ownsRow B 3 1 (.slice wa n wc) n (II wl)) (hl : Has .i64 w5 wa n wl) : Has .i64 (mask F (fun _ => Classical.propDecidable _) w) wa n wl := by
  refine ⟨hl.1, hl.2.1, ?_⟩
  rcases hl.2.2 with e | ⟨b, off, rfl, hlt, hc⟩
  · exact .inl e
  rcases ho.2 with ⟨e, _⟩ | ⟨g, cap, cur, e, hgB, hgg, _⟩
  · cases e
  simp only [Value.slice.injEq, Option.some.injEq, Addr.mk.injEq, and_true] at e
  obtain ⟨⟨rfl, rfl⟩, _⟩ := e
  exact .inr ⟨b, 0, rfl, by rw [mask_size]; exact Nat.lt_of_lt_of_le hlt hb5.size, fun i hi => mask_cell (cell_keep (hc i hi) hb5) (hF b hgB hlt)⟩
@[reducible] def stBox (k : FK) (kind : Int) (wa : Option Addr) (wn wc : Nat) (m : QSl) (h : HitM) (a : Option Addr) (n c : Nat) : Obj := .cells #[faceV k, .int .i64 kind, .slice wa wn wc, .slice m.a m.n m.c, .int .i64 h.1, .slice a n c] 52
theorem st_new {t : TabD} {wl : List Int} {al : List ActD} {B : Nat} {w4 w5 w6 : World} {k : FK} (hf : NewAt w4 k) (hn : NewFace t wl B k) (hb5 : Below w4.heap.size w4 w5) (hb6 : Below w5.heap.size w5 w6)
    {wa : Option Addr} {wc : Nat} {m : QSl} {S : List SayD} (hw : Has .i64 w5 wa wl.length wl) (hS : S.map (fun s => (s.act, s.ps)) = sayL al t.al) (ow : w5.ownsRow w4.heap.size 3 1 (.slice wa wl.length wc) wl.length (II wl)) (om : w5.ownsRow w4.heap.size 87 2 (.slice m.a m.n m.c) S.length (S.flatMap SayD.cells)) (hrow : QRow 2 SayD.lie w5 m S) (hg : ∀ s ∈ S, s.good w4.heap.size w5)
    {a : Option Addr} {n c : Nat} {h : HitM} (hfr : From w5.heap.size a n) (hs : Says w6 (.agg #[.int .i64 h.1, .slice a n c]) h) (hone : t.kind = 2 → wl.length = 1) (hfew : t.al.length ≤ 100000) {w7 : World} (e7 : w7 = w6.alloc (stBox k t.kind wa wl.length wc m h a n c)) :
    StAt w7 w6.heap.size (k.at (zoneN w7 k.p)) FSt.none wl (sayL al t.al) h w7.heap.size (fun j => Own w7 (k.at (zoneN w7 k.p)) j ∨ j < k.B) := by
  have hty : w7.heap[w6.heap.size]? = some (stBox k t.kind wa wl.length wc m h a n c) := by
    rw [e7]
    show (w6.heap.push _)[w6.heap.size]? = _
    rw [Array.getElem?_push_size]
  have hz : w7.heap.size = w6.heap.size + 1 := by rw [e7]; simp
  have hb7 : Below w6.heap.size w6 w7 := by rw [e7]; exact bl_alloc (Below.refl _ _)
  clear e7
  obtain ⟨s, es⟩ : ∃ s, s = w6.heap.size := ⟨_, rfl⟩
  rw [← es] at hty
  have hc : ∀ (o : Nat) (v : Value), (#[faceV k, .int .i64 t.kind, .slice wa wl.length wc, .slice m.a m.n m.c, .int .i64 h.1, .slice a n c] : Array Value)[o]? = some v → w7.cell? ⟨s, o, none⟩ = some v := fun o v hv => by simp only [World.cell?, hty]; exact hv
  have c0 := hc 0 _ rfl
  have b4 : Below w4.heap.size w4 w7 := bl_step (bl_step hb5 hb6) hb7
  have b5 : Below w5.heap.size w5 w7 := bl_step hb6 hb7
  have z5 := hb5.size
  have z6 := hb6.size
  have hT : ∃ T v, faceV k = .iface T v := by unfold faceV; split <;> (try split) <;> exact ⟨_, _, rfl⟩
  obtain ⟨T, v, eT⟩ := hT
  rw [← es]
  have hB4 := hf.1.small
  have hF : ∀ g, w4.heap.size ≤ g → g < s → ¬ ((Own w7 (k.at (zoneN w7 k.p)) g ∨ g < k.B) ∨ w7.heap.size ≤ g ∨ g = s) := by
    intro g h1 h2
    rintro ((o | o) | o | o)
    · exact own_far hf b4 h1 (by omega) o
    · omega
    · omega
    · omega
  refine ⟨⟨?_, by omega⟩, ⟨_, hty⟩, c0, by rw [show (k.at (zoneN w7 k.p)).kind = t.kind from hn.kind]; exact hc 1 _ rfl, ⟨wa, wl.length, wc, hc 2 _ rfl, ints_mask (fun g h1 h2 => hF g h1 (by omega)) b5 ow hw⟩, ⟨m.a, m.n, m.c, hc 3 _ rfl, ?_⟩, ⟨a, n, c, hc 4 _ rfl, hc 5 _ rfl, ?_⟩, hf.face b4, ?_, fun e => hone (by rw [← hn.kind]; exact e), fun _ _ o => .inl o, Nat.le_refl _⟩
  · rintro (o | o)
    · exact own_far hf b4 (by omega) (by omega) o
    · omega
  · refine ⟨by rw [← hS, List.length_map]; exact hrow.1, fun i x hx => ?_⟩
    rw [← hS, List.getElem?_map] at hx
    cases hi : S[i]? with
    | none => rw [hi] at hx; cases hx
    | some sd =>
      rw [hi] at hx
      cases hx
      obtain ⟨g, off, em, hp⟩ := hrow.2 i sd hi
      have hgl : g < w5.heap.size := World.block_lt_of_cell? _ _ hp.1.1
      have ho : w4.heap.size ≤ g ∧ off = 0 := by
        rcases om.2 with ⟨e, e2⟩ | ⟨g', cap, cur, e, hgB, _⟩
        · simp only [Value.slice.injEq] at e
          rw [e.1] at em
          cases em
        · simp only [Value.slice.injEq] at e
          rw [em] at e
          simp only [Option.some.injEq, Addr.mk.injEq, and_true] at e
          obtain ⟨⟨rfl, rfl⟩, _⟩ := e
          exact ⟨hgB, rfl⟩
      obtain ⟨hgB, rfl⟩ := ho
      rw [Nat.zero_add] at hp
      have k1 := cell_keep hp.2.1.1 b5
      have hno := hF g hgB (by omega)
      exact ⟨g, sd.params.a, sd.params.n, sd.params.c, em, mask_cell (cell_keep hp.1.1 b5) hno, mask_cell k1 hno, ints_mask (fun g h1 h2 => hF g h1 (by omega)) b5 (hg sd (List.mem_of_getElem? hi)).2.2 hp.2.2⟩
  · obtain ⟨a', n', c', e, h1, h2, hh⟩ := hs
    simp only [Value.agg.injEq, Array.mk.injEq, List.cons.injEq, Value.slice.injEq, and_true, true_and] at e
    obtain ⟨rfl, rfl, rfl⟩ := e
    refine ⟨a, n, c, rfl, h1, h2, hh.1, hh.2.1, ?_⟩
    rcases hh.2.2 with hh2 | ⟨b, off, rfl, hlt, hcc⟩
    · exact .inl hh2
    · rcases Nat.eq_zero_or_pos n with h0 | h0
      · exact .inl (List.length_eq_zero_iff.1 (by rw [hh.1]; exact h0))
      obtain ⟨b', off', e, hB, _⟩ := hfr h0
      simp only [Option.some.injEq, Addr.mk.injEq, and_true] at e
      obtain ⟨rfl, rfl⟩ := e
      exact .inr ⟨b, off, rfl, by rw [mask_size]; omega, fun i hi => mask_cell (cell_keep (hcc i hi) hb7) (hF b (by omega) (by omega))⟩
  · have : (sayL al t.al).length = t.al.length := by simp [sayL]
    omega
end Go.Proofs.YtffbnggdckjogaaGreat
