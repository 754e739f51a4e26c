/- plan.Own: lists of things, each in memory of its own. -/
import Derived.Test.YtlnkfgdepddmladGreatVQOwn1
namespace Go.Proofs.YtlnkfgdepddmladGreat
open Go.RowKit

/-- cells written one behind the other -/
def setsAt (w : World) (g : Nat) : Nat → List Value → World
  | _, [] => w
  | o, u :: us => setsAt (w.setCell ⟨g, o, none⟩ u) g (o + 1) us

def setAll (xs : List Value) : Nat → List Value → List Value
  | _, [] => xs
  | o, u :: us => setAll (xs.set o u) (o + 1) us

theorem sets_owns {base n cap k g : Nat} {T : TypeId} {us : List Value} : ∀ {w : World} {xs : List Value} {o : Nat}, w.ownsRow base T k (.slice (some ⟨g, 0, none⟩) n cap) n xs → (setsAt w g o us).ownsRow base T k (.slice (some ⟨g, 0, none⟩) n cap) n (setAll xs o us) ∧ w.grownBy (setsAt w g o us) (some g) := by
  induction us with
  | nil => intro w xs o h; exact ⟨h, rfl, rfl, rfl, Nat.le_refl _, fun _ _ _ => rfl⟩
  | cons u us ih =>
    intro w xs o h
    obtain ⟨h1, h2⟩ := h.stored o u
    obtain ⟨h3, h4⟩ := ih h1 (o := o + 1)
    refine ⟨h3, h4.os.trans h2.os, h4.tape.trans h2.tape, h4.output.trans h2.output, Nat.le_trans h2.size h4.size, fun j hj hne => ?_⟩
    exact (h4.block j (Nat.lt_of_lt_of_le hj h2.size) hne).trans (h2.block j hj hne)

theorem setAll_at (us : List Value) : ∀ (xs : List Value) (o j : Nat), o + us.length ≤ xs.length → (setAll xs o us)[j]? = if o ≤ j ∧ j < o + us.length then us[j - o]? else xs[j]? := by
  induction us with
  | nil => intro xs o j _; rw [if_neg (by simp only [List.length_nil]; omega)]; rfl
  | cons u us ih =>
    intro xs o j h
    simp only [List.length_cons] at h
    show (setAll (xs.set o u) (o + 1) us)[j]? = _
    rw [ih _ _ _ (by rw [List.length_set]; omega), List.getElem?_set]
    by_cases h1 : o + 1 ≤ j ∧ j < o + 1 + us.length
    · rw [if_pos h1, if_pos ⟨by omega, by simp only [List.length_cons]; omega⟩, show j - o = (j - (o + 1)) + 1 by omega]
      rfl
    · rw [if_neg h1]
      by_cases h2 : o = j
      · subst h2
        rw [if_pos rfl, if_pos (show o < xs.length by omega), if_pos (show o ≤ o ∧ o < o + (u :: us).length from ⟨Nat.le_refl _, by simp only [List.length_cons]; omega⟩), Nat.sub_self]
        rfl
      · rw [if_neg h2, if_neg (by simp only [List.length_cons]; omega)]

theorem setAll_len (us : List Value) : ∀ (xs : List Value) (o : Nat), (setAll xs o us).length = xs.length := by
  induction us with
  | nil => intro xs o; rfl
  | cons u us ih => intro xs o; show (setAll (xs.set o u) (o + 1) us).length = _; rw [ih, List.length_set]

theorem Kd.flat_set {α : Type} (K : Kd α) {L : List α} {i : Nat} (x' : α) (hi : i < L.length) : setAll (L.flatMap K.cells) (i * K.k) (K.cells x') = (L.set i x').flatMap K.cells := by
  have hle : i * K.k + K.k ≤ L.length * K.k := by
    have : (i + 1) * K.k ≤ L.length * K.k := Nat.mul_le_mul_right _ hi
    rw [Nat.add_mul] at this
    omega
  apply List.ext_getElem?
  intro j
  rw [setAll_at _ _ _ _ (by rw [K.len, K.flat_len]; exact hle), K.len]
  by_cases h : i * K.k ≤ j ∧ j < i * K.k + K.k
  · rw [if_pos h]
    have hr : j - i * K.k < (K.cells x').length := by rw [K.len]; omega
    rw [List.getElem?_eq_getElem hr]
    have := K.flat_at (S := L.set i x') (i := i) (r := j - i * K.k) (s := x') (by rw [List.getElem?_set_self hi]) (List.getElem?_eq_getElem hr)
    rw [← this]
    congr 1
    omega
  · rw [if_neg h]
    by_cases hj : j < L.length * K.k
    · have hjl : j < (L.flatMap K.cells).length := by rw [K.flat_len]; exact hj
      obtain ⟨i', r, s, h1, h2, h3⟩ := K.flat_of (List.getElem?_eq_getElem hjl)
      have hrk : r < K.k := by have := (List.getElem?_eq_some_iff.1 h2).1; rwa [K.len] at this
      have hne : i ≠ i' := by
        rintro rfl
        exact h ⟨by omega, by omega⟩
      subst h3
      rw [List.getElem?_eq_getElem hjl]
      exact (K.flat_at (S := L.set i x') (by rw [List.getElem?_set_ne hne]; exact h1) h2).symm
    · rw [List.getElem?_eq_none (by rw [K.flat_len]; omega), List.getElem?_eq_none (by rw [K.flat_len, List.length_set]; omega)]

/-- what was there, and the row's block -/
abbrev rowF (w : World) (a : Option Addr) : Nat → Prop := fun b => b < w.heap.size ∨ (Value.slice a 0 0).ownBlock = some b

/-- a list of which the first i are in memory of their own -/
structure EachAt {α β : Type} (K : Kd α) (f : α → β) (T : TypeId) (S : List α) (n : Nat) (w : World) (a : Option Addr) (c i : Nat) (L : List α) (wr : World) : Prop where
  own : wr.ownsRow w.heap.size T K.k (.slice a n c) n (L.flatMap K.cells)
  len : L.length = n
  done : ∀ (j : Nat) (x : α), j < i → L[j]? = some x → K.inn x (mask (rowF w a) (fun _ => Classical.propDecidable _) wr)
  eqv : L.map f = S.map f
  rest : ∀ j, i ≤ j → L[j]? = S[j]?
  bel : Below w.heap.size w wr

theorem owns_belowK {w w' : World} {base n k : Nat} {T : TypeId} {v : Value} {xs : List Value} (h : w.ownsRow base T k v n xs) (b : Below w.heap.size w w') : w'.ownsRow base T k v n xs :=
  h.kept (row := none) ⟨b.os, b.tape, b.output, b.size, fun k hk _ => b.block k hk⟩ (by cases v.ownBlock <;> simp)

theorem EachAt.next {α β : Type} {K : Kd α} {f : α → β} {T : TypeId} {S : List α} {n : Nat} {w : World} {g c i : Nat} {L : List α} {wr W w1 : World} {x x' : α} (h : EachAt K f T S n w (some ⟨g, 0, none⟩) c i L wr) (hi : i < n) (hx : L[i]? = some x)
    (hW : Below wr.heap.size wr W) (hb : Below W.heap.size W w1) (hf : f x' = f x) (hin : K.inn x' (mask (old W) (fun _ => Classical.propDecidable _) w1)) : EachAt K f T S n w (some ⟨g, 0, none⟩) c (i + 1) (L.set i x') (setsAt w1 g (i * K.k) (K.cells x')) := by
  have hg := h.own.lt g rfl
  have hbb : Below wr.heap.size wr w1 := bl_step hW hb
  have h1 := owns_belowK h.own hbb
  obtain ⟨h2, h3⟩ := sets_owns (o := i * K.k) (us := K.cells x') h1
  rw [K.flat_set x' (by rw [h.len]; exact hi)] at h2
  have hkeep : Below (mask (rowF w (some ⟨g, 0, none⟩)) (fun _ => Classical.propDecidable _) wr).heap.size (mask (rowF w (some ⟨g, 0, none⟩)) (fun _ => Classical.propDecidable _) wr) (mask (rowF w (some ⟨g, 0, none⟩)) (fun _ => Classical.propDecidable _) (setsAt w1 g (i * K.k) (K.cells x'))) :=
    mask_below (h3.os.trans hbb.os) (h3.tape.trans hbb.tape) (h3.output.trans hbb.output) (Nat.le_trans hbb.size h3.size) (fun _ h => h) fun k hk hF => ⟨hF, (h3.block k (Nat.lt_of_lt_of_le hk hbb.size) (fun e => hF (.inr e.symm))).trans (hbb.block k hk)⟩
  refine ⟨h2, by rw [List.length_set]; exact h.len, fun j y hj hy => ?_, ?_, fun j hj => ?_, ?_⟩
  · by_cases e : j = i
    · subst e
      rw [List.getElem?_set_self (by rw [h.len]; exact hi)] at hy
      cases hy
      have hnew : Below (mask (old W) (fun _ => Classical.propDecidable _) w1).heap.size (mask (old W) (fun _ => Classical.propDecidable _) w1) (mask (old W) (fun _ => Classical.propDecidable _) (setsAt w1 g (j * K.k) (K.cells x'))) :=
        mask_below h3.os h3.tape h3.output h3.size (fun _ h => h) fun k hk hF => ⟨hF, h3.block k hk (fun e => hF (by
          have e' : k = g := Option.some.inj e
          have := hW.size
          show k < W.heap.size
          omega))⟩
      refine K.cov (K.step hin hnew) (cov_less _ fun b hb => ?_)
      have := hW.size
      have := h.bel.size
      rcases hb with hb | hb
      · show b < W.heap.size
        omega
      · have e' : g = b := Option.some.inj hb
        show b < W.heap.size
        omega
    · rw [List.getElem?_set_ne (by omega)] at hy
      exact K.step (h.done j y (by omega) hy) hkeep
  · rw [List.map_set, hf, ← h.eqv]
    apply List.ext_getElem?
    intro j
    rw [List.getElem?_set]
    by_cases e : i = j
    · subst e
      rw [if_pos rfl, List.getElem?_map, hx]
      simp [h.len, hi]
    · rw [if_neg e]
  · rw [List.getElem?_set_ne (by omega)]
    exact h.rest j (by omega)
  · exact (h.bel.trans (hbb.mono h.bel.size)).grown h3 (Nat.le_trans h.bel.size hbb.size) fun k hk => by cases hk; exact hg.1

theorem EachAt.end {α β : Type} {K : Kd α} {f : α → β} {T : TypeId} {S : List α} {n : Nat} {w : World} {a : Option Addr} {c i : Nat} {L : List α} {wr : World} (h : EachAt K f T S n w a c i L wr) (hi : n ≤ i) : RowDone K f S n w (.returned (.slice a n c)) wr := by
  refine ⟨a, c, L, rfl, ?_, Kd.own_nil0 h.own, h.eqv, h.bel⟩
  refine fresh_row K h.own fun s hs => ?_
  obtain ⟨j, hj, rfl⟩ := List.getElem_of_mem hs
  exact K.cov (h.done j _ (by have := h.len; omega) (List.getElem?_eq_getElem hj)) (cov_less _ fun b hb => .inl hb)

theorem EachAt.start {α β : Type} {K : Kd α} {f : α → β} {T : TypeId} {S : List α} {n : Nat} {w : World} {a : Option Addr} {c : Nat} {w1 : World} (ho : w1.ownsRow w.heap.size T K.k (.slice a n c) n (S.flatMap K.cells)) (hl : S.length = n) (hb : Below w.heap.size w w1) : EachAt K f T S n w a c 0 S w1 :=
  ⟨ho, hl, fun _ _ hj => absurd hj (Nat.not_lt_zero _), rfl, fun _ _ => rfl, hb⟩

/-- the thing at i, and where it lies -/
theorem EachAt.at {α β : Type} {K : Kd α} {f : α → β} {T : TypeId} {S : List α} {n : Nat} {w : World} {a : Option Addr} {c i : Nat} {L : List α} {wr : World} (h : EachAt K f T S n w a c i L wr) (hi : i < n) : ∃ g x, a = some ⟨g, 0, none⟩ ∧ L[i]? = some x ∧ S[i]? = some x ∧ w.heap.size ≤ g ∧ g < wr.heap.size ∧ (∀ j u, (K.cells x)[j]? = some u → wr.cell? ⟨g, i * K.k + j, none⟩ = some u) ∧ ∀ j, wr.frozen? ⟨g, j, none⟩ = false := by
  have hl : i < L.length := by rw [h.len]; exact hi
  rcases h.own.2 with ⟨_, e⟩ | ⟨g, cap, cur, e, _⟩
  · omega
  · simp only [Value.slice.injEq] at e
    obtain ⟨rfl, _, rfl⟩ := e
    obtain ⟨h1, h2⟩ := h.own.lt g rfl
    have hx := List.getElem?_eq_getElem hl
    refine ⟨g, _, rfl, hx, by rw [← h.rest i (Nat.le_refl _)]; exact hx, h1, h2, fun j u hu => ?_, fun j => h.own.frozenAt j⟩
    have hr : j < K.k := by have := (List.getElem?_eq_some_iff.1 hu).1; rwa [K.len] at this
    rw [h.own.cellAt _ ?_, K.flat_at hx hu]
    have : (i + 1) * K.k ≤ n * K.k := Nat.mul_le_mul_right _ (by omega)
    rw [Nat.add_mul] at this
    omega

set_option maxHeartbeats 4000000 in
set_option maxRecDepth 20000 in
theorem each_head (s : QSl) (S : List HeadD) (w : World) (h : QRow 1 HeadD.lie w s S) (h0 : s.nil0) (hn : s.n ≤ 100000) (hb : ∀ x ∈ S, x.w.n ≤ 100000) : Calls Tryz.prog 68 #[.slice s.a s.n s.c, .func (.func 69) #[] #[]] w (RowDone kHead HeadD.ws S s.n w) := by
  have HC := hid (copied_head s S w h h0 hn)
  have HIN := hid (kHead.inns h)
  have HL := hid h.1
  have HB := hid hb
  clear h h0 hb
  go_enter Tryz.func68, Tryz.ntmps68
  go_wp2_with fail
  refine HC.out.mono ?_
  rintro e w1 ⟨a, c, rfl, ho, hb1⟩
  have ST : Hid (EachAt kHead HeadD.ws 94 S s.n w a c 0 S w1) := EachAt.start ho HL.out hb1
  clear ho hb1 HC
  go_wp2
  go_loopw [12, 6, 7] (fun q _ _ wr => ∃ (i : Nat) (L : List HeadD), i ≤ s.n ∧ q = .int .i64 i ∧ Hid (EachAt kHead HeadD.ws 94 S s.n w a c i L wr)) (fun q _ _ _ => s.n - (intOf q).toNat)
  case atStart => exact ⟨0, S, Nat.zero_le _, rfl, ST⟩
  case round =>
    obtain ⟨i, L, hi, rfl, EA⟩ := hrel
    clear ST
    by_cases hlt : i < s.n
    · have hii : (i : Int) < (s.n : Int) := by omega
      obtain ⟨g, x, rfl, hx, hx', hg, hgw, hcell, hfz⟩ := EA.out.at hlt
      have z0 : wr.cell? ⟨g, i, none⟩ = some (.slice x.w.a x.w.n x.w.c) := by have := hcell 0 _ rfl; rw [show i * kHead.k + 0 = i from Nat.mul_one i] at this; exact this
      have HX := hid hx
      have HOW := hid (ownHeader_any x (wr.alloc (.cells #[.slice x.w.a x.w.n x.w.c] 94)) (kHead.step (HIN.out x (List.mem_of_getElem? hx')) (bl_step EA.out.bel (bl_alloc (Below.refl _ _)))) (HB.out x (List.mem_of_getElem? hx')))
      have HG := hid hg
      have HGW := hid hgw
      clear hcell hx hx' hg hgw hfz
      go_wp2_with fail
      refine HOW.out.mono ?_
      rintro e w2 ⟨x', he, hf, hin, hb2⟩
      obtain rfl : e = .returned (.agg #[.slice x'.w.a x'.w.n x'.w.c]) := he
      have hgw : g < w2.heap.size := by have h1 := hb2.size; rw [World.size_alloc] at h1; have := HGW.out; omega
      have y0 : w2.cell? ⟨g, i, none⟩ = some (.slice x.w.a x.w.n x.w.c) := (hb2.cell (p := ⟨g, i, none⟩) (by have := HGW.out; simp; omega)).trans ((World.cell?_alloc_past _ _ _ (by have := HGW.out; simp; omega)).trans z0)
      have v0 : w2.frozen? ⟨g, i, none⟩ = false := (hb2.frozen (p := ⟨g, i, none⟩) (by have := HGW.out; simp; omega)).trans ((World.frozen?_alloc_past _ _ _ (by have := HGW.out; simp; omega)).trans (EA.out.own.frozenAt _))
      have NX : Hid (EachAt kHead HeadD.ws 94 S s.n w (some ⟨g, 0, none⟩) c (i + 1) (L.set i x') (setsAt w2 g (i * kHead.k) (kHead.cells x'))) := EA.out.next hlt HX.out (bl_alloc (Below.refl _ _)) hb2 hf hin
      clear hf hin hb2 HOW EA z0
      rw [show i * kHead.k = i from Nat.mul_one i] at NX
      go_wp2
      go_roundw
      case rel => exact ⟨i + 1, _, by omega, by go_num, NX⟩
      case measure => simp [intOf]; omega
    · have hii : ¬ (i : Int) < (s.n : Int) := by omega
      have HE := hid (EA.out.end (by omega))
      clear EA
      go_wp2
      go_ret
      exact HE.out

set_option maxHeartbeats 4000000 in
set_option maxRecDepth 20000 in
theorem each_state (s : QSl) (S : List StateD) (w : World) (h : QRow 5 StateD.lie w s S) (h0 : s.nil0) (hn : s.n ≤ 100000) (hb : ∀ x ∈ S, x.cases.n ≤ 100000) : Calls Tryz.prog 71 #[.slice s.a s.n s.c, .func (.func 72) #[] #[]] w (RowDone kState StateD.p S s.n w) := by
  have HC := hid (copied_state s S w h h0 hn)
  have HIN := hid (kState.inns h)
  have HL := hid h.1
  have HB := hid hb
  clear h h0 hb
  go_enter Tryz.func71, Tryz.ntmps71
  go_wp2_with fail
  refine HC.out.mono ?_
  rintro e w1 ⟨a, c, rfl, ho, hb1⟩
  have ST : Hid (EachAt kState StateD.p 99 S s.n w a c 0 S w1) := EachAt.start ho HL.out hb1
  clear ho hb1 HC
  go_wp2
  go_loopw [12, 6, 7] (fun q _ _ wr => ∃ (i : Nat) (L : List StateD), i ≤ s.n ∧ q = .int .i64 i ∧ Hid (EachAt kState StateD.p 99 S s.n w a c i L wr)) (fun q _ _ _ => s.n - (intOf q).toNat)
  case atStart => exact ⟨0, S, Nat.zero_le _, rfl, ST⟩
  case round =>
    obtain ⟨i, L, hi, rfl, EA⟩ := hrel
    clear ST
    by_cases hlt : i < s.n
    · have hii : (i : Int) < (s.n : Int) := by omega
      obtain ⟨g, x, rfl, hx, hx', hg, hgw, hcell, hfz⟩ := EA.out.at hlt
      have z0 : wr.cell? ⟨g, i * 5, none⟩ = some (.int .i64 x.head) := hcell 0 _ rfl
      have z1 : wr.cell? ⟨g, i * 5 + 1, none⟩ = some (.int .i64 x.r.h) := hcell 1 _ rfl
      have z2 : wr.cell? ⟨g, i * 5 + 2, none⟩ = some (.int .i64 x.r.f) := hcell 2 _ rfl
      have z3 : wr.cell? ⟨g, i * 5 + 3, none⟩ = some (.slice x.cases.a x.cases.n x.cases.c) := hcell 3 _ rfl
      have z4 : wr.cell? ⟨g, i * 5 + 4, none⟩ = some (.int .i64 x.els) := hcell 4 _ rfl
      have HX := hid hx
      have HOW := hid (ownState_any x (wr.alloc (.cells #[.int .i64 x.head, .int .i64 x.r.h, .int .i64 x.r.f, .slice x.cases.a x.cases.n x.cases.c, .int .i64 x.els] 99)) (kState.step (HIN.out x (List.mem_of_getElem? hx')) (bl_step EA.out.bel (bl_alloc (Below.refl _ _)))) (HB.out x (List.mem_of_getElem? hx')))
      have HG := hid hg
      have HGW := hid hgw
      clear hcell hx hx' hg hgw hfz
      go_wp2_with fail
      refine HOW.out.mono ?_
      rintro e w2 ⟨x', he, hf, hin, hb2⟩
      obtain rfl : e = .returned (.agg #[.int .i64 x'.head, .int .i64 x'.r.h, .int .i64 x'.r.f, .slice x'.cases.a x'.cases.n x'.cases.c, .int .i64 x'.els]) := he
      have hgw : g < w2.heap.size := by have h1 := hb2.size; rw [World.size_alloc] at h1; have := HGW.out; omega
      have y0 : w2.cell? ⟨g, i * 5, none⟩ = some (.int .i64 x.head) := (hb2.cell (p := ⟨g, i * 5, none⟩) (by have := HGW.out; simp; omega)).trans ((World.cell?_alloc_past _ _ _ (by have := HGW.out; simp; omega)).trans z0)
      have v0 : w2.frozen? ⟨g, i * 5, none⟩ = false := (hb2.frozen (p := ⟨g, i * 5, none⟩) (by have := HGW.out; simp; omega)).trans ((World.frozen?_alloc_past _ _ _ (by have := HGW.out; simp; omega)).trans (EA.out.own.frozenAt _))
      have y1 : w2.cell? ⟨g, i * 5 + 1, none⟩ = some (.int .i64 x.r.h) := (hb2.cell (p := ⟨g, i * 5 + 1, none⟩) (by have := HGW.out; simp; omega)).trans ((World.cell?_alloc_past _ _ _ (by have := HGW.out; simp; omega)).trans z1)
      have v1 : w2.frozen? ⟨g, i * 5 + 1, none⟩ = false := (hb2.frozen (p := ⟨g, i * 5 + 1, none⟩) (by have := HGW.out; simp; omega)).trans ((World.frozen?_alloc_past _ _ _ (by have := HGW.out; simp; omega)).trans (EA.out.own.frozenAt _))
      have y2 : w2.cell? ⟨g, i * 5 + 2, none⟩ = some (.int .i64 x.r.f) := (hb2.cell (p := ⟨g, i * 5 + 2, none⟩) (by have := HGW.out; simp; omega)).trans ((World.cell?_alloc_past _ _ _ (by have := HGW.out; simp; omega)).trans z2)
      have v2 : w2.frozen? ⟨g, i * 5 + 2, none⟩ = false := (hb2.frozen (p := ⟨g, i * 5 + 2, none⟩) (by have := HGW.out; simp; omega)).trans ((World.frozen?_alloc_past _ _ _ (by have := HGW.out; simp; omega)).trans (EA.out.own.frozenAt _))
      have y3 : w2.cell? ⟨g, i * 5 + 3, none⟩ = some (.slice x.cases.a x.cases.n x.cases.c) := (hb2.cell (p := ⟨g, i * 5 + 3, none⟩) (by have := HGW.out; simp; omega)).trans ((World.cell?_alloc_past _ _ _ (by have := HGW.out; simp; omega)).trans z3)
      have v3 : w2.frozen? ⟨g, i * 5 + 3, none⟩ = false := (hb2.frozen (p := ⟨g, i * 5 + 3, none⟩) (by have := HGW.out; simp; omega)).trans ((World.frozen?_alloc_past _ _ _ (by have := HGW.out; simp; omega)).trans (EA.out.own.frozenAt _))
      have y4 : w2.cell? ⟨g, i * 5 + 4, none⟩ = some (.int .i64 x.els) := (hb2.cell (p := ⟨g, i * 5 + 4, none⟩) (by have := HGW.out; simp; omega)).trans ((World.cell?_alloc_past _ _ _ (by have := HGW.out; simp; omega)).trans z4)
      have v4 : w2.frozen? ⟨g, i * 5 + 4, none⟩ = false := (hb2.frozen (p := ⟨g, i * 5 + 4, none⟩) (by have := HGW.out; simp; omega)).trans ((World.frozen?_alloc_past _ _ _ (by have := HGW.out; simp; omega)).trans (EA.out.own.frozenAt _))
      have NX : Hid (EachAt kState StateD.p 99 S s.n w (some ⟨g, 0, none⟩) c (i + 1) (L.set i x') (setsAt w2 g (i * kState.k) (kState.cells x'))) := EA.out.next hlt HX.out (bl_alloc (Below.refl _ _)) hb2 hf hin
      clear hf hin hb2 HOW EA z0 z1 z2 z3 z4
      go_wp2
      go_roundw
      case rel => exact ⟨i + 1, _, by omega, by go_num, NX⟩
      case measure => simp [intOf]; omega
    · have hii : ¬ (i : Int) < (s.n : Int) := by omega
      have HE := hid (EA.out.end (by omega))
      clear EA
      go_wp2
      go_ret
      exact HE.out

set_option maxHeartbeats 4000000 in
set_option maxRecDepth 20000 in
theorem each_op (s : QSl) (S : List OpD) (w : World) (h : QRow 5 OpD.lie w s S) (h0 : s.nil0) (hn : s.n ≤ 100000) (hb : ∀ x ∈ S, x.e.n ≤ 100000) : Calls Tryz.prog 128 #[.slice s.a s.n s.c, .func (.func 129) #[] #[]] w (RowDone kOp OpD.p S s.n w) := by
  have HC := hid (copied_op s S w h h0 hn)
  have HIN := hid (kOp.inns h)
  have HL := hid h.1
  have HB := hid hb
  clear h h0 hb
  go_enter Tryz.func128, Tryz.ntmps128
  go_wp2_with fail
  refine HC.out.mono ?_
  rintro e w1 ⟨a, c, rfl, ho, hb1⟩
  have ST : Hid (EachAt kOp OpD.p 103 S s.n w a c 0 S w1) := EachAt.start ho HL.out hb1
  clear ho hb1 HC
  go_wp2
  go_loopw [12, 6, 7] (fun q _ _ wr => ∃ (i : Nat) (L : List OpD), i ≤ s.n ∧ q = .int .i64 i ∧ Hid (EachAt kOp OpD.p 103 S s.n w a c i L wr)) (fun q _ _ _ => s.n - (intOf q).toNat)
  case atStart => exact ⟨0, S, Nat.zero_le _, rfl, ST⟩
  case round =>
    obtain ⟨i, L, hi, rfl, EA⟩ := hrel
    clear ST
    by_cases hlt : i < s.n
    · have hii : (i : Int) < (s.n : Int) := by omega
      obtain ⟨g, x, rfl, hx, hx', hg, hgw, hcell, hfz⟩ := EA.out.at hlt
      have z0 : wr.cell? ⟨g, i * 5, none⟩ = some (.int .i64 x.kind) := hcell 0 _ rfl
      have z1 : wr.cell? ⟨g, i * 5 + 1, none⟩ = some (.int .i64 x.r.h) := hcell 1 _ rfl
      have z2 : wr.cell? ⟨g, i * 5 + 2, none⟩ = some (.int .i64 x.r.f) := hcell 2 _ rfl
      have z3 : wr.cell? ⟨g, i * 5 + 3, none⟩ = some (.int .i64 x.head) := hcell 3 _ rfl
      have z4 : wr.cell? ⟨g, i * 5 + 4, none⟩ = some (.slice x.e.a x.e.n x.e.c) := hcell 4 _ rfl
      have HX := hid hx
      have HOW := hid (ownOp_any x (wr.alloc (.cells #[.int .i64 x.kind, .int .i64 x.r.h, .int .i64 x.r.f, .int .i64 x.head, .slice x.e.a x.e.n x.e.c] 103)) (kOp.step (HIN.out x (List.mem_of_getElem? hx')) (bl_step EA.out.bel (bl_alloc (Below.refl _ _)))) (HB.out x (List.mem_of_getElem? hx')))
      have HG := hid hg
      have HGW := hid hgw
      clear hcell hx hx' hg hgw hfz
      go_wp2_with fail
      refine HOW.out.mono ?_
      rintro e w2 ⟨x', he, hf, hin, hb2⟩
      obtain rfl : e = .returned (.agg #[.int .i64 x'.kind, .int .i64 x'.r.h, .int .i64 x'.r.f, .int .i64 x'.head, .slice x'.e.a x'.e.n x'.e.c]) := he
      have hgw : g < w2.heap.size := by have h1 := hb2.size; rw [World.size_alloc] at h1; have := HGW.out; omega
      have y0 : w2.cell? ⟨g, i * 5, none⟩ = some (.int .i64 x.kind) := (hb2.cell (p := ⟨g, i * 5, none⟩) (by have := HGW.out; simp; omega)).trans ((World.cell?_alloc_past _ _ _ (by have := HGW.out; simp; omega)).trans z0)
      have v0 : w2.frozen? ⟨g, i * 5, none⟩ = false := (hb2.frozen (p := ⟨g, i * 5, none⟩) (by have := HGW.out; simp; omega)).trans ((World.frozen?_alloc_past _ _ _ (by have := HGW.out; simp; omega)).trans (EA.out.own.frozenAt _))
      have y1 : w2.cell? ⟨g, i * 5 + 1, none⟩ = some (.int .i64 x.r.h) := (hb2.cell (p := ⟨g, i * 5 + 1, none⟩) (by have := HGW.out; simp; omega)).trans ((World.cell?_alloc_past _ _ _ (by have := HGW.out; simp; omega)).trans z1)
      have v1 : w2.frozen? ⟨g, i * 5 + 1, none⟩ = false := (hb2.frozen (p := ⟨g, i * 5 + 1, none⟩) (by have := HGW.out; simp; omega)).trans ((World.frozen?_alloc_past _ _ _ (by have := HGW.out; simp; omega)).trans (EA.out.own.frozenAt _))
      have y2 : w2.cell? ⟨g, i * 5 + 2, none⟩ = some (.int .i64 x.r.f) := (hb2.cell (p := ⟨g, i * 5 + 2, none⟩) (by have := HGW.out; simp; omega)).trans ((World.cell?_alloc_past _ _ _ (by have := HGW.out; simp; omega)).trans z2)
      have v2 : w2.frozen? ⟨g, i * 5 + 2, none⟩ = false := (hb2.frozen (p := ⟨g, i * 5 + 2, none⟩) (by have := HGW.out; simp; omega)).trans ((World.frozen?_alloc_past _ _ _ (by have := HGW.out; simp; omega)).trans (EA.out.own.frozenAt _))
      have y3 : w2.cell? ⟨g, i * 5 + 3, none⟩ = some (.int .i64 x.head) := (hb2.cell (p := ⟨g, i * 5 + 3, none⟩) (by have := HGW.out; simp; omega)).trans ((World.cell?_alloc_past _ _ _ (by have := HGW.out; simp; omega)).trans z3)
      have v3 : w2.frozen? ⟨g, i * 5 + 3, none⟩ = false := (hb2.frozen (p := ⟨g, i * 5 + 3, none⟩) (by have := HGW.out; simp; omega)).trans ((World.frozen?_alloc_past _ _ _ (by have := HGW.out; simp; omega)).trans (EA.out.own.frozenAt _))
      have y4 : w2.cell? ⟨g, i * 5 + 4, none⟩ = some (.slice x.e.a x.e.n x.e.c) := (hb2.cell (p := ⟨g, i * 5 + 4, none⟩) (by have := HGW.out; simp; omega)).trans ((World.cell?_alloc_past _ _ _ (by have := HGW.out; simp; omega)).trans z4)
      have v4 : w2.frozen? ⟨g, i * 5 + 4, none⟩ = false := (hb2.frozen (p := ⟨g, i * 5 + 4, none⟩) (by have := HGW.out; simp; omega)).trans ((World.frozen?_alloc_past _ _ _ (by have := HGW.out; simp; omega)).trans (EA.out.own.frozenAt _))
      have NX : Hid (EachAt kOp OpD.p 103 S s.n w (some ⟨g, 0, none⟩) c (i + 1) (L.set i x') (setsAt w2 g (i * kOp.k) (kOp.cells x'))) := EA.out.next hlt HX.out (bl_alloc (Below.refl _ _)) hb2 hf hin
      clear hf hin hb2 HOW EA z0 z1 z2 z3 z4
      go_wp2
      go_roundw
      case rel => exact ⟨i + 1, _, by omega, by go_num, NX⟩
      case measure => simp [intOf]; omega
    · have hii : ¬ (i : Int) < (s.n : Int) := by omega
      have HE := hid (EA.out.end (by omega))
      clear EA
      go_wp2
      go_ret
      exact HE.out

set_option maxHeartbeats 4000000 in
set_option maxRecDepth 20000 in
theorem each_tab (s : QSl) (S : List TabD) (w : World) (h : QRow 6 TabD.lie w s S) (h0 : s.nil0) (hn : s.n ≤ 100000) (hb : ∀ x ∈ S, x.keys.n ≤ 100000 ∧ x.acts.n ≤ 100000 ∧ x.args.n ≤ 100000) : Calls Tryz.prog 75 #[.slice s.a s.n s.c, .func (.func 76) #[] #[]] w (RowDone kTab TabD.p S s.n w) := by
  have HC := hid (copied_tab s S w h h0 hn)
  have HIN := hid (kTab.inns h)
  have HL := hid h.1
  have HB := hid hb
  clear h h0 hb
  go_enter Tryz.func75, Tryz.ntmps75
  go_wp2_with fail
  refine HC.out.mono ?_
  rintro e w1 ⟨a, c, rfl, ho, hb1⟩
  have ST : Hid (EachAt kTab TabD.p 26 S s.n w a c 0 S w1) := EachAt.start ho HL.out hb1
  clear ho hb1 HC
  go_wp2
  go_loopw [12, 6, 7] (fun q _ _ wr => ∃ (i : Nat) (L : List TabD), i ≤ s.n ∧ q = .int .i64 i ∧ Hid (EachAt kTab TabD.p 26 S s.n w a c i L wr)) (fun q _ _ _ => s.n - (intOf q).toNat)
  case atStart => exact ⟨0, S, Nat.zero_le _, rfl, ST⟩
  case round =>
    obtain ⟨i, L, hi, rfl, EA⟩ := hrel
    clear ST
    by_cases hlt : i < s.n
    · have hii : (i : Int) < (s.n : Int) := by omega
      obtain ⟨g, x, rfl, hx, hx', hg, hgw, hcell, hfz⟩ := EA.out.at hlt
      have z0 : wr.cell? ⟨g, i * 6, none⟩ = some (.int .i64 x.kind) := hcell 0 _ rfl
      have z1 : wr.cell? ⟨g, i * 6 + 1, none⟩ = some (.slice x.keys.a x.keys.n x.keys.c) := hcell 1 _ rfl
      have z2 : wr.cell? ⟨g, i * 6 + 2, none⟩ = some (.slice x.acts.a x.acts.n x.acts.c) := hcell 2 _ rfl
      have z3 : wr.cell? ⟨g, i * 6 + 3, none⟩ = some (.int .i64 x.cap) := hcell 3 _ rfl
      have z4 : wr.cell? ⟨g, i * 6 + 4, none⟩ = some (.int .i64 x.dflt) := hcell 4 _ rfl
      have z5 : wr.cell? ⟨g, i * 6 + 5, none⟩ = some (.slice x.args.a x.args.n x.args.c) := hcell 5 _ rfl
      have HX := hid hx
      have HOW := hid (ownTable_any x (wr.alloc (.cells #[.int .i64 x.kind, .slice x.keys.a x.keys.n x.keys.c, .slice x.acts.a x.acts.n x.acts.c, .int .i64 x.cap, .int .i64 x.dflt, .slice x.args.a x.args.n x.args.c] 26)) (kTab.step (HIN.out x (List.mem_of_getElem? hx')) (bl_step EA.out.bel (bl_alloc (Below.refl _ _)))) (HB.out x (List.mem_of_getElem? hx')))
      have HG := hid hg
      have HGW := hid hgw
      clear hcell hx hx' hg hgw hfz
      go_wp2_with fail
      refine HOW.out.mono ?_
      rintro e w2 ⟨x', he, hf, hin, hb2⟩
      obtain rfl : e = .returned (.agg #[.int .i64 x'.kind, .slice x'.keys.a x'.keys.n x'.keys.c, .slice x'.acts.a x'.acts.n x'.acts.c, .int .i64 x'.cap, .int .i64 x'.dflt, .slice x'.args.a x'.args.n x'.args.c]) := he
      have hgw : g < w2.heap.size := by have h1 := hb2.size; rw [World.size_alloc] at h1; have := HGW.out; omega
      have y0 : w2.cell? ⟨g, i * 6, none⟩ = some (.int .i64 x.kind) := (hb2.cell (p := ⟨g, i * 6, none⟩) (by have := HGW.out; simp; omega)).trans ((World.cell?_alloc_past _ _ _ (by have := HGW.out; simp; omega)).trans z0)
      have v0 : w2.frozen? ⟨g, i * 6, none⟩ = false := (hb2.frozen (p := ⟨g, i * 6, none⟩) (by have := HGW.out; simp; omega)).trans ((World.frozen?_alloc_past _ _ _ (by have := HGW.out; simp; omega)).trans (EA.out.own.frozenAt _))
      have y1 : w2.cell? ⟨g, i * 6 + 1, none⟩ = some (.slice x.keys.a x.keys.n x.keys.c) := (hb2.cell (p := ⟨g, i * 6 + 1, none⟩) (by have := HGW.out; simp; omega)).trans ((World.cell?_alloc_past _ _ _ (by have := HGW.out; simp; omega)).trans z1)
      have v1 : w2.frozen? ⟨g, i * 6 + 1, none⟩ = false := (hb2.frozen (p := ⟨g, i * 6 + 1, none⟩) (by have := HGW.out; simp; omega)).trans ((World.frozen?_alloc_past _ _ _ (by have := HGW.out; simp; omega)).trans (EA.out.own.frozenAt _))
      have y2 : w2.cell? ⟨g, i * 6 + 2, none⟩ = some (.slice x.acts.a x.acts.n x.acts.c) := (hb2.cell (p := ⟨g, i * 6 + 2, none⟩) (by have := HGW.out; simp; omega)).trans ((World.cell?_alloc_past _ _ _ (by have := HGW.out; simp; omega)).trans z2)
      have v2 : w2.frozen? ⟨g, i * 6 + 2, none⟩ = false := (hb2.frozen (p := ⟨g, i * 6 + 2, none⟩) (by have := HGW.out; simp; omega)).trans ((World.frozen?_alloc_past _ _ _ (by have := HGW.out; simp; omega)).trans (EA.out.own.frozenAt _))
      have y3 : w2.cell? ⟨g, i * 6 + 3, none⟩ = some (.int .i64 x.cap) := (hb2.cell (p := ⟨g, i * 6 + 3, none⟩) (by have := HGW.out; simp; omega)).trans ((World.cell?_alloc_past _ _ _ (by have := HGW.out; simp; omega)).trans z3)
      have v3 : w2.frozen? ⟨g, i * 6 + 3, none⟩ = false := (hb2.frozen (p := ⟨g, i * 6 + 3, none⟩) (by have := HGW.out; simp; omega)).trans ((World.frozen?_alloc_past _ _ _ (by have := HGW.out; simp; omega)).trans (EA.out.own.frozenAt _))
      have y4 : w2.cell? ⟨g, i * 6 + 4, none⟩ = some (.int .i64 x.dflt) := (hb2.cell (p := ⟨g, i * 6 + 4, none⟩) (by have := HGW.out; simp; omega)).trans ((World.cell?_alloc_past _ _ _ (by have := HGW.out; simp; omega)).trans z4)
      have v4 : w2.frozen? ⟨g, i * 6 + 4, none⟩ = false := (hb2.frozen (p := ⟨g, i * 6 + 4, none⟩) (by have := HGW.out; simp; omega)).trans ((World.frozen?_alloc_past _ _ _ (by have := HGW.out; simp; omega)).trans (EA.out.own.frozenAt _))
      have y5 : w2.cell? ⟨g, i * 6 + 5, none⟩ = some (.slice x.args.a x.args.n x.args.c) := (hb2.cell (p := ⟨g, i * 6 + 5, none⟩) (by have := HGW.out; simp; omega)).trans ((World.cell?_alloc_past _ _ _ (by have := HGW.out; simp; omega)).trans z5)
      have v5 : w2.frozen? ⟨g, i * 6 + 5, none⟩ = false := (hb2.frozen (p := ⟨g, i * 6 + 5, none⟩) (by have := HGW.out; simp; omega)).trans ((World.frozen?_alloc_past _ _ _ (by have := HGW.out; simp; omega)).trans (EA.out.own.frozenAt _))
      have NX : Hid (EachAt kTab TabD.p 26 S s.n w (some ⟨g, 0, none⟩) c (i + 1) (L.set i x') (setsAt w2 g (i * kTab.k) (kTab.cells x'))) := EA.out.next hlt HX.out (bl_alloc (Below.refl _ _)) hb2 hf hin
      clear hf hin hb2 HOW EA z0 z1 z2 z3 z4 z5
      go_wp2
      go_roundw
      case rel => exact ⟨i + 1, _, by omega, by go_num, NX⟩
      case measure => simp [intOf]; omega
    · have hii : ¬ (i : Int) < (s.n : Int) := by omega
      have HE := hid (EA.out.end (by omega))
      clear EA
      go_wp2
      go_ret
      exact HE.out

set_option maxHeartbeats 4000000 in
set_option maxRecDepth 20000 in
theorem each_node (s : QSl) (S : List NodeD) (w : World) (h : QRow 5 NodeD.lie w s S) (h0 : s.nil0) (hn : s.n ≤ 100000) (hb : ∀ x ∈ S, x.e.n ≤ 100000) : Calls Tryz.prog 77 #[.slice s.a s.n s.c, .func (.func 78) #[] #[]] w (RowDone kNode NodeD.p S s.n w) := by
  have HC := hid (copied_node s S w h h0 hn)
  have HIN := hid (kNode.inns h)
  have HL := hid h.1
  have HB := hid hb
  clear h h0 hb
  go_enter Tryz.func77, Tryz.ntmps77
  go_wp2_with fail
  refine HC.out.mono ?_
  rintro e w1 ⟨a, c, rfl, ho, hb1⟩
  have ST : Hid (EachAt kNode NodeD.p 105 S s.n w a c 0 S w1) := EachAt.start ho HL.out hb1
  clear ho hb1 HC
  go_wp2
  go_loopw [12, 6, 7] (fun q _ _ wr => ∃ (i : Nat) (L : List NodeD), i ≤ s.n ∧ q = .int .i64 i ∧ Hid (EachAt kNode NodeD.p 105 S s.n w a c i L wr)) (fun q _ _ _ => s.n - (intOf q).toNat)
  case atStart => exact ⟨0, S, Nat.zero_le _, rfl, ST⟩
  case round =>
    obtain ⟨i, L, hi, rfl, EA⟩ := hrel
    clear ST
    by_cases hlt : i < s.n
    · have hii : (i : Int) < (s.n : Int) := by omega
      obtain ⟨g, x, rfl, hx, hx', hg, hgw, hcell, hfz⟩ := EA.out.at hlt
      have z0 : wr.cell? ⟨g, i * 5, none⟩ = some (.int .i64 x.kind) := hcell 0 _ rfl
      have z1 : wr.cell? ⟨g, i * 5 + 1, none⟩ = some (.int .i64 x.n) := hcell 1 _ rfl
      have z2 : wr.cell? ⟨g, i * 5 + 2, none⟩ = some (.slice x.e.a x.e.n x.e.c) := hcell 2 _ rfl
      have z3 : wr.cell? ⟨g, i * 5 + 3, none⟩ = some (.int .i64 x.yes) := hcell 3 _ rfl
      have z4 : wr.cell? ⟨g, i * 5 + 4, none⟩ = some (.int .i64 x.no) := hcell 4 _ rfl
      have HX := hid hx
      have HOW := hid (ownNode_any x (wr.alloc (.cells #[.int .i64 x.kind, .int .i64 x.n, .slice x.e.a x.e.n x.e.c, .int .i64 x.yes, .int .i64 x.no] 105)) (kNode.step (HIN.out x (List.mem_of_getElem? hx')) (bl_step EA.out.bel (bl_alloc (Below.refl _ _)))) (HB.out x (List.mem_of_getElem? hx')))
      have HG := hid hg
      have HGW := hid hgw
      clear hcell hx hx' hg hgw hfz
      go_wp2_with fail
      refine HOW.out.mono ?_
      rintro e w2 ⟨x', he, hf, hin, hb2⟩
      obtain rfl : e = .returned (.agg #[.int .i64 x'.kind, .int .i64 x'.n, .slice x'.e.a x'.e.n x'.e.c, .int .i64 x'.yes, .int .i64 x'.no]) := he
      have hgw : g < w2.heap.size := by have h1 := hb2.size; rw [World.size_alloc] at h1; have := HGW.out; omega
      have y0 : w2.cell? ⟨g, i * 5, none⟩ = some (.int .i64 x.kind) := (hb2.cell (p := ⟨g, i * 5, none⟩) (by have := HGW.out; simp; omega)).trans ((World.cell?_alloc_past _ _ _ (by have := HGW.out; simp; omega)).trans z0)
      have v0 : w2.frozen? ⟨g, i * 5, none⟩ = false := (hb2.frozen (p := ⟨g, i * 5, none⟩) (by have := HGW.out; simp; omega)).trans ((World.frozen?_alloc_past _ _ _ (by have := HGW.out; simp; omega)).trans (EA.out.own.frozenAt _))
      have y1 : w2.cell? ⟨g, i * 5 + 1, none⟩ = some (.int .i64 x.n) := (hb2.cell (p := ⟨g, i * 5 + 1, none⟩) (by have := HGW.out; simp; omega)).trans ((World.cell?_alloc_past _ _ _ (by have := HGW.out; simp; omega)).trans z1)
      have v1 : w2.frozen? ⟨g, i * 5 + 1, none⟩ = false := (hb2.frozen (p := ⟨g, i * 5 + 1, none⟩) (by have := HGW.out; simp; omega)).trans ((World.frozen?_alloc_past _ _ _ (by have := HGW.out; simp; omega)).trans (EA.out.own.frozenAt _))
      have y2 : w2.cell? ⟨g, i * 5 + 2, none⟩ = some (.slice x.e.a x.e.n x.e.c) := (hb2.cell (p := ⟨g, i * 5 + 2, none⟩) (by have := HGW.out; simp; omega)).trans ((World.cell?_alloc_past _ _ _ (by have := HGW.out; simp; omega)).trans z2)
      have v2 : w2.frozen? ⟨g, i * 5 + 2, none⟩ = false := (hb2.frozen (p := ⟨g, i * 5 + 2, none⟩) (by have := HGW.out; simp; omega)).trans ((World.frozen?_alloc_past _ _ _ (by have := HGW.out; simp; omega)).trans (EA.out.own.frozenAt _))
      have y3 : w2.cell? ⟨g, i * 5 + 3, none⟩ = some (.int .i64 x.yes) := (hb2.cell (p := ⟨g, i * 5 + 3, none⟩) (by have := HGW.out; simp; omega)).trans ((World.cell?_alloc_past _ _ _ (by have := HGW.out; simp; omega)).trans z3)
      have v3 : w2.frozen? ⟨g, i * 5 + 3, none⟩ = false := (hb2.frozen (p := ⟨g, i * 5 + 3, none⟩) (by have := HGW.out; simp; omega)).trans ((World.frozen?_alloc_past _ _ _ (by have := HGW.out; simp; omega)).trans (EA.out.own.frozenAt _))
      have y4 : w2.cell? ⟨g, i * 5 + 4, none⟩ = some (.int .i64 x.no) := (hb2.cell (p := ⟨g, i * 5 + 4, none⟩) (by have := HGW.out; simp; omega)).trans ((World.cell?_alloc_past _ _ _ (by have := HGW.out; simp; omega)).trans z4)
      have v4 : w2.frozen? ⟨g, i * 5 + 4, none⟩ = false := (hb2.frozen (p := ⟨g, i * 5 + 4, none⟩) (by have := HGW.out; simp; omega)).trans ((World.frozen?_alloc_past _ _ _ (by have := HGW.out; simp; omega)).trans (EA.out.own.frozenAt _))
      have NX : Hid (EachAt kNode NodeD.p 105 S s.n w (some ⟨g, 0, none⟩) c (i + 1) (L.set i x') (setsAt w2 g (i * kNode.k) (kNode.cells x'))) := EA.out.next hlt HX.out (bl_alloc (Below.refl _ _)) hb2 hf hin
      clear hf hin hb2 HOW EA z0 z1 z2 z3 z4
      go_wp2
      go_roundw
      case rel => exact ⟨i + 1, _, by omega, by go_num, NX⟩
      case measure => simp [intOf]; omega
    · have hii : ¬ (i : Int) < (s.n : Int) := by omega
      have HE := hid (EA.out.end (by omega))
      clear EA
      go_wp2
      go_ret
      exact HE.out
end Go.Proofs.YtlnkfgdepddmladGreat
