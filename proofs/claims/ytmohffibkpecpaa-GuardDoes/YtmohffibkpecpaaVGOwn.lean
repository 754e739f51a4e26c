/- shuntyardref.OwnProgram. -/
import Derived.Test.YtmohffibkpecpaaVGFits
import Derived.Test.YtmohffibkpecpaaJ3
import Derived.Deep.RegionHeld3
namespace Go.Proofs.Ytmohffibkpecpaa
open Go.RowKit

/-- the cells of a row of things -/
theorem gflat_at {α : Type} {cells : α → List Value} {k : Nat} (hk : ∀ x, (cells x).length = k) {S : List α} {j : Nat} {u : Value} (h : (S.flatMap cells)[j]? = some u) : ∃ i r s, S[i]? = some s ∧ (cells s)[r]? = some u ∧ j = i * k + r := by
  induction S generalizing j with
  | nil => simp at h
  | cons x S ih =>
    rw [List.flatMap_cons] at h
    by_cases hj : j < k
    · rw [List.getElem?_append_left (by rw [hk]; exact hj)] at h
      exact ⟨0, j, x, rfl, h, by omega⟩
    · rw [List.getElem?_append_right (by rw [hk]; omega), hk] at h
      obtain ⟨i, r, s, h1, h2, h3⟩ := ih h
      exact ⟨i + 1, r, s, h1, h2, by rw [Nat.add_mul]; omega⟩
theorem gflat_to {α : Type} {cells : α → List Value} {k : Nat} (hk : ∀ x, (cells x).length = k) {S : List α} {i r : Nat} {s : α} {u : Value} (h : S[i]? = some s) (hu : (cells s)[r]? = some u) : (S.flatMap cells)[i * k + r]? = some u := by
  have hr : r < k := by have := (List.getElem?_eq_some_iff.1 hu).1; rwa [hk] at this
  induction S generalizing i with
  | nil => simp at h
  | cons x S ih =>
    cases i with
    | zero =>
      simp only [List.getElem?_cons_zero, Option.some.injEq] at h
      subst h
      rw [List.flatMap_cons, Nat.zero_mul, Nat.zero_add, List.getElem?_append_left (by rw [hk]; exact hr), hu]
    | succ i =>
      simp only [List.getElem?_cons_succ] at h
      rw [List.flatMap_cons, List.getElem?_append_right (by rw [hk, Nat.add_mul]; omega), hk, show (i + 1) * k + r - k = i * k + r by rw [Nat.add_mul]; omega]
      exact ih h
theorem gflat_n {α : Type} {cells : α → List Value} {k : Nat} (hk : ∀ x, (cells x).length = k) (S : List α) : (S.flatMap cells).length = S.length * k := by
  induction S with
  | nil => simp
  | cons s S ih => rw [List.flatMap_cons, List.length_append, ih, hk, List.length_cons, Nat.add_mul, Nat.one_mul, Nat.add_comm]

theorem ShapeD.lie.cells {x : ShapeD} {w : World} {g o : Nat} (h : x.lie w g o) : ∀ r u, (kShapeE x)[r]? = some u → w.cell? ⟨g, o + r, none⟩ = some u := by
  intro r u hu
  match r, hu with
  | 0, hu => cases hu; exact h.1.1
  | 1, hu => cases hu; exact h.2.1.1
  | 2, hu => cases hu; exact h.2.2.1
  | r + 3, hu => simp [kShapeE] at hu
theorem InsD.lie.cells {x : InsD} {w : World} {g o : Nat} (h : x.lie w g o) : ∀ r u, (kInsE x)[r]? = some u → w.cell? ⟨g, o + r, none⟩ = some u := by
  intro r u hu
  match r, hu with
  | 0, hu => cases hu; exact h.1.1
  | 1, hu => cases hu; exact h.2.1.1
  | 2, hu => cases hu; exact h.2.2.1.1
  | 3, hu => cases hu; exact h.2.2.2.1.1
  | 4, hu => cases hu; exact h.2.2.2.2.1.1
  | 5, hu => cases hu; exact h.2.2.2.2.2.1
  | r + 6, hu => simp [kInsE] at hu

/-- a copy of a row: append(nil, l...) -/
theorem gcopy {α : Type} {cells : α → List Value} {k : Nat} {P : α → World → Nat → Nat → Prop} (hk : ∀ x, (cells x).length = k) (k0 : 0 < k) (h1 : ∀ x, ∀ u ∈ cells x, u.oneCell' = true) (hP : ∀ {x : α} {w : World} {g o : Nat}, P x w g o → ∀ r u, (cells x)[r]? = some u → w.cell? ⟨g, o + r, none⟩ = some u)
    {w : World} {T TS : TypeId} {z : Value} {bs : Nat} (ty : TypeId) (hT : Try.prog.underlying TS = some (.slice T)) (hinfo : (Try.prog.info? T).map (fun i => (i.zero, i.size, i.bytes)) = some (some z, k, bs)) (hzs : z.cells.size = k) (hbs : bs ≤ 1000)
    {s : QSl} {S : List α} (hr : QRow k P w s S) (hn : s.nil0) (hsm : s.n ≤ 100000) :
    ∃ a c w', (Builtin.append_ #[TS, TS] ty #[.slice none 0 0, .slice s.a s.n s.c]).run Try.prog w = .ok (.slice a s.n c) w' ∧ w'.ownsRow w.heap.size T k (.slice a s.n c) s.n (S.flatMap cells) ∧ Below w.heap.size w w' := by
  obtain ⟨i0, hi, hz0, hz1, hz2⟩ := info_parts hinfo
  have hlen : (S.flatMap cells).length = s.n * k := by rw [gflat_n hk, hr.1]
  obtain ⟨sa, sn, sc⟩ := s
  cases sa with
  | none =>
    obtain ⟨e1, e2⟩ := hn rfl
    dsimp only at e1 e2
    subst e1; subst e2
    refine ⟨none, 0, w, run_append_owned_none (P := Try.prog) w w.heap.size TS ty T i0 k hT hi (.slice none 0 0) 0 [] (World.ownsRow_nil _ _ _ _), ?_, Below.refl _ _⟩
    have : S = [] := List.eq_nil_of_length_eq_zero hr.1
    subst this
    exact World.ownsRow_nil _ _ _ _
  | some ad =>
    have hsrc : ∀ j u, (S.flatMap cells)[j]? = some u → w.cell? (ad.add j) = some u := by
      intro j u hu
      obtain ⟨i, r, x, q1, q2, rfl⟩ := gflat_at hk hu
      obtain ⟨g, off, e, hp⟩ := hr.2 i x q1
      obtain rfl := Option.some.inj e
      rw [Addr.add_lit, ← Nat.add_assoc]
      exact hP hp r u q2
    have hone : ∀ u ∈ S.flatMap cells, u.oneCell' = true := fun u hu => by
      obtain ⟨x, _, hx⟩ := List.mem_flatMap.1 hu
      exact h1 x u hx
    have hsm' : sn * bs ≤ 100000 * 1000 := Nat.mul_le_mul hsm hbs
    obtain ⟨v', w', hrun, r1, r2, -⟩ := run_append_own (P := Try.prog) w w.heap.size TS ty T i0 z k bs hT hi hz0 hz1 hz2 hzs k0 (.slice none 0 0) 0 [] (World.ownsRow_nil _ _ _ _) ad sn sc (S.flatMap cells) hlen hsrc hone (by unfold maxLen; dsimp only at hsm; omega) (by rw [Nat.zero_add]; omega) (Nat.le_refl _)
    rw [Nat.zero_add, List.nil_append] at r1
    obtain ⟨a, c, e⟩ : ∃ a c, v' = .slice a sn c := by
      rcases r1.2 with ⟨e, e2⟩ | ⟨g, c, cur, e, _⟩
      · exact ⟨none, 0, by rw [e, e2]⟩
      · exact ⟨_, c, e⟩
    subst e
    exact ⟨a, c, w', hrun, r1, (Below.refl _ _).grown r2 (Nat.le_refl _) (by intro j hj; simp [Value.ownBlock] at hj)⟩

theorem kShape_one (x : ShapeD) : ∀ u ∈ kShapeE x, u.oneCell' = true := by
  intro u hu
  simp [kShapeE] at hu
  rcases hu with rfl | rfl | rfl <;> rfl
theorem kIns_one (x : InsD) : ∀ u ∈ kInsE x, u.oneCell' = true := by
  intro u hu
  simp [kInsE] at hu
  rcases hu with rfl | rfl | rfl | rfl | rfl | rfl <;> rfl

/-- what is owned lies -/
theorem gown_row {α : Type} {cells : α → List Value} {k : Nat} {P : α → World → Nat → Nat → Prop} (hk : ∀ x, (cells x).length = k) (k0 : 0 < k) {w : World} {base n c : Nat} {T : TypeId} {a : Option Addr} {S : List α} (h : w.ownsRow base T k (.slice a n c) n (S.flatMap cells)) (hP : ∀ x ∈ S, ∀ {g o : Nat}, (∀ r u, (cells x)[r]? = some u → w.cell? ⟨g, o + r, none⟩ = some u) → P x w g o) : QRow k P w ⟨a, n, c⟩ S ∧ QSl.nil0 ⟨a, n, c⟩ ∧ (∀ ad, a = some ad → base ≤ ad.block) := by
  have hl : S.length = n := by
    have := h.1
    rw [gflat_n hk] at this
    exact Nat.eq_of_mul_eq_mul_right k0 this
  refine ⟨⟨hl, fun i s hs => ?_⟩, ?_, ?_⟩
  · have hin : i < n := by have := (List.getElem?_eq_some_iff.1 hs).1; omega
    rcases h.2 with ⟨_, e⟩ | ⟨g, cap, cur, e, _⟩
    · omega
    · simp only [Value.slice.injEq] at e
      obtain ⟨rfl, _, rfl⟩ := e
      refine ⟨g, 0, rfl, hP s (List.mem_of_getElem? hs) (fun j u hu => ?_)⟩
      have hr : j < k := by have := (List.getElem?_eq_some_iff.1 hu).1; rwa [hk] at this
      rw [Nat.zero_add, h.cellAt (i * k + j) ?_, gflat_to hk hs hu]
      have : (i + 1) * k ≤ n * k := Nat.mul_le_mul_right _ (by omega)
      rw [Nat.add_mul] at this
      omega
  · intro ha
    dsimp only at ha ⊢
    rcases h.2 with ⟨e, _⟩ | ⟨g, cap, cur, e, _⟩
    · simp only [Value.slice.injEq] at e
      exact ⟨e.2.1, e.2.2⟩
    · simp only [Value.slice.injEq] at e
      rw [ha] at e
      cases e.1
  · intro ad ha
    rcases h.2 with ⟨e, _⟩ | ⟨g, cap, cur, e, hb, _⟩
    · simp only [Value.slice.injEq] at e
      rw [ha] at e
      cases e.1
    · simp only [Value.slice.injEq] at e
      rw [e.1] at ha
      cases ha
      exact hb

/-- its lists are its own -/
def OwnB (q : ProgD) (w w' : World) : Prop := (∀ ad, q.code.a = some ad → (∃ cur, w'.heap[ad.block]? = some (.cells cur 35 (0, 0))) ∧ w.heap.size ≤ ad.block) ∧ ∀ ad, q.tabs.a = some ad → (∃ cur, w'.heap[ad.block]? = some (.cells cur 64 (0, 0))) ∧ w.heap.size ≤ ad.block
theorem own_at {w : World} {base n c k : Nat} {T : TypeId} {a : Option Addr} {vs : List Value} (h : w.ownsRow base T k (.slice a n c) n vs) {ad : Addr} (ha : a = some ad) : (∃ cur, w.heap[ad.block]? = some (.cells cur T (0, 0))) ∧ base ≤ ad.block := by
  rcases h.2 with ⟨e, _⟩ | ⟨g, cap, cur, e, hb, hh, _⟩
  · simp only [Value.slice.injEq] at e
    rw [ha] at e
    cases e.1
  · simp only [Value.slice.injEq] at e
    rw [e.1] at ha
    cases ha
    exact ⟨⟨cur, hh⟩, hb⟩
/-- a program of its own -/
def OwnIs2 (d : ProgD) (w : World) (e : Ending) (w' : World) : Prop := ∃ q : ProgD, e = .returned q.v ∧ q.slots = d.slots ∧ q.ts = d.ts ∧ q.cs = d.cs ∧ q.lie w' ∧ q.small ∧ Below w.heap.size w w' ∧ OwnB q w w'
def OwnIs (d : ProgD) (w : World) (e : Ending) (w' : World) : Prop := ∃ q : ProgD, e = .returned q.v ∧ q.slots = d.slots ∧ q.ts = d.ts ∧ q.cs = d.cs ∧ q.lie w' ∧ q.small ∧ Below w.heap.size w w'

set_option maxHeartbeats 4000000 in
set_option maxRecDepth 20000 in
theorem rown2 (d : ProgD) (w : World) (hl : d.lie w) (hm : d.small) : Calls Try.prog 6 #[d.v] w (OwnIs2 d w) := by
  obtain ⟨W2, hW2⟩ : ∃ W2, W2 = ((w.alloc (.cells #[.int .i64 d.slots, .slice d.tabs.a d.tabs.n d.tabs.c, .slice d.code.a d.code.n d.code.c] 25)).alloc (.cells #[.int .i64 0, .slice none 0 0, .slice none 0 0] 25)) := ⟨_, rfl⟩
  obtain ⟨pb, hpb⟩ : ∃ b, b = w.heap.size := ⟨_, rfl⟩
  obtain ⟨qb, hqb⟩ : ∃ b, b = w.heap.size + 1 := ⟨_, rfl⟩
  have b2 : Below w.heap.size w W2 := by rw [hW2]; exact bl_alloc (bl_alloc (Below.refl _ _))
  have PB : PBox d W2 pb := by rw [hW2, hpb]; exact (pbox_new d w).step (bl_alloc (Below.refl _ _))
  have QB : W2.heap[qb]? = some (.cells #[.int .i64 0, .slice none 0 0, .slice none 0 0] 25 (0, 0)) := by
    rw [hW2, hqb]
    have := galloc_at (w.alloc (.cells #[.int .i64 d.slots, .slice d.tabs.a d.tabs.n d.tabs.c, .slice d.code.a d.code.n d.code.c] 25)) #[.int .i64 0, .slice none 0 0, .slice none 0 0] 25
    simpa using this
  have HT : Hid (∀ w', Below W2.heap.size W2 w' → ∃ a c w'', (Builtin.append_ #[22, 22] 22 #[.slice none 0 0, .slice d.tabs.a d.tabs.n d.tabs.c]).run Try.prog w' = .ok (.slice a d.tabs.n c) w'' ∧ w''.ownsRow W2.heap.size 64 3 (.slice a d.tabs.n c) d.tabs.n (d.ts.flatMap kShapeE) ∧ Below w'.heap.size w' w'') := fun w' h => by
    obtain ⟨a, c, w'', h1, h2, h3⟩ := gcopy (cells := kShapeE) (k := 3) (P := ShapeD.lie) (fun _ => rfl) (by decide) kShape_one (fun h => h.cells) 22 Try.underlying22 Try.ginfoShape rfl (by decide) (hl.step (bl_step b2 h)).t hl.n1 (by have := hm.1; omega)
    refine ⟨a, c, w'', h1, ⟨h2.1, ?_⟩, h3⟩
    rcases h2.2 with q | ⟨g, cap, cur, hv, hb, r⟩
    · exact .inl q
    · exact .inr ⟨g, cap, cur, hv, Nat.le_trans h.size hb, r⟩
  have HC : Hid (∀ w', Below W2.heap.size W2 w' → ∃ a c w'', (Builtin.append_ #[23, 23] 23 #[.slice none 0 0, .slice d.code.a d.code.n d.code.c]).run Try.prog w' = .ok (.slice a d.code.n c) w'' ∧ w''.ownsRow W2.heap.size 35 6 (.slice a d.code.n c) d.code.n (d.cs.flatMap kInsE) ∧ Below w'.heap.size w' w'') := fun w' h => by
    obtain ⟨a, c, w'', h1, h2, h3⟩ := gcopy (cells := kInsE) (k := 6) (P := InsD.lie) (fun _ => rfl) (by decide) kIns_one (fun h => h.cells) 23 Try.underlying23 Try.ginfoIns rfl (by decide) (hl.step (bl_step b2 h)).c hl.n2 (by have := hm.2; omega)
    refine ⟨a, c, w'', h1, ⟨h2.1, ?_⟩, h3⟩
    rcases h2.2 with q | ⟨g, cap, cur, hv, hb, r⟩
    · exact .inl q
    · exact .inr ⟨g, cap, cur, hv, Nat.le_trans h.size hb, r⟩
  have hts : ∀ x ∈ d.ts, x.wf := fun x hx => by
    obtain ⟨i, hi, rfl⟩ := List.getElem_of_mem hx
    obtain ⟨g, off, _, hp⟩ := hl.t.2 i _ (List.getElem?_eq_getElem hi)
    exact hp.wf
  have HEND : Hid (∀ a1 c1 a2 c2 w8, Below W2.heap.size W2 w8 → w8.ownsRow W2.heap.size 64 3 (.slice a1 d.tabs.n c1) d.tabs.n (d.ts.flatMap kShapeE) → w8.ownsRow W2.heap.size 35 6 (.slice a2 d.code.n c2) d.code.n (d.cs.flatMap kInsE) → (w8.cell? ⟨qb, 0, none⟩ = some (.int .i64 0) ∧ w8.cell? ⟨qb, 1, none⟩ = some (.slice none 0 0) ∧ w8.cell? ⟨qb, 2, none⟩ = some (.slice none 0 0) ∧ w8.frozen? ⟨qb, 0, none⟩ = false ∧ w8.frozen? ⟨qb, 1, none⟩ = false ∧ w8.frozen? ⟨qb, 2, none⟩ = false ∧ qb < w8.heap.size) ∧ OwnIs2 d w (.returned (.agg #[.int .i64 d.slots, .slice a1 d.tabs.n c1, .slice a2 d.code.n c2])) (((w8.setCell ⟨qb, 0, none⟩ (.int .i64 d.slots)).setCell ⟨qb, 1, none⟩ (.slice a1 d.tabs.n c1)).setCell ⟨qb, 2, none⟩ (.slice a2 d.code.n c2))) := by
    intro a1 c1 a2 c2 w8 hb o1 o2
    have hql := (Array.getElem?_eq_some_iff.1 QB).1
    have k := (hb.block qb hql).trans QB
    obtain ⟨r1, n1, f1⟩ := gown_row (cells := kShapeE) (k := 3) (P := ShapeD.lie) (fun _ => rfl) (by decide) o1 (fun x hx g o h => ⟨⟨h 0 _ rfl, (hts x hx).1⟩, ⟨h 1 _ rfl, (hts x hx).2.1⟩, ⟨h 2 _ rfl, (hts x hx).2.2⟩⟩)
    obtain ⟨r2, n2, f2⟩ := gown_row (cells := kInsE) (k := 6) (P := InsD.lie) (fun _ => rfl) (by decide) o2 (fun x hx g o h => ⟨⟨h 0 _ rfl, (hl.wfs x hx).1⟩, ⟨h 1 _ rfl, (hl.wfs x hx).2.1⟩, ⟨h 2 _ rfl, (hl.wfs x hx).2.2.1⟩, ⟨h 3 _ rfl, (hl.wfs x hx).2.2.2.1⟩, ⟨h 4 _ rfl, (hl.wfs x hx).2.2.2.2.1⟩, ⟨h 5 _ rfl, (hl.wfs x hx).2.2.2.2.2⟩⟩)
    refine ⟨⟨gbox_cell k 0, gbox_cell k 1, gbox_cell k 2, by simp [World.frozen?, k], by simp [World.frozen?, k], by simp [World.frozen?, k], (Array.getElem?_eq_some_iff.1 k).1⟩, ⟨d.slots, ⟨a1, d.tabs.n, c1⟩, d.ts, ⟨a2, d.code.n, c2⟩, d.cs⟩, rfl, rfl, rfl, rfl, ?_, hm, ?_, ⟨fun ad had => ?_, fun ad had => ?_⟩⟩
    · refine ProgD.lie.blk (w := w8) ⟨hl.ws, n1, n2, r1, r2⟩ (fun ad had => ?_) (fun ad had => ?_)
      · have := f1 ad had
        rw [Below.heap_setCell _ _ _ _ (by show ad.block ≠ qb; omega), Below.heap_setCell _ _ _ _ (by show ad.block ≠ qb; omega), Below.heap_setCell _ _ _ _ (by show ad.block ≠ qb; omega)]
      · have := f2 ad had
        rw [Below.heap_setCell _ _ _ _ (by show ad.block ≠ qb; omega), Below.heap_setCell _ _ _ _ (by show ad.block ≠ qb; omega), Below.heap_setCell _ _ _ _ (by show ad.block ≠ qb; omega)]
    · exact (((bl_step b2 hb).setCell (p := ⟨qb, 0, none⟩) (by show w.heap.size ≤ qb; omega) _).setCell (p := ⟨qb, 1, none⟩) (by show w.heap.size ≤ qb; omega) _).setCell (p := ⟨qb, 2, none⟩) (by show w.heap.size ≤ qb; omega) _
    · obtain ⟨⟨cur, hh⟩, hg⟩ := own_at o2 had
      refine ⟨⟨cur, ?_⟩, Nat.le_trans b2.size hg⟩
      rw [Below.heap_setCell _ _ _ _ (by show ad.block ≠ qb; omega), Below.heap_setCell _ _ _ _ (by show ad.block ≠ qb; omega), Below.heap_setCell _ _ _ _ (by show ad.block ≠ qb; omega)]
      exact hh
    · obtain ⟨⟨cur, hh⟩, hg⟩ := own_at o1 had
      refine ⟨⟨cur, ?_⟩, Nat.le_trans b2.size hg⟩
      rw [Below.heap_setCell _ _ _ _ (by show ad.block ≠ qb; omega), Below.heap_setCell _ _ _ _ (by show ad.block ≠ qb; omega), Below.heap_setCell _ _ _ _ (by show ad.block ≠ qb; omega)]
      exact hh
  have HPB := hid PB
  have EW := hid hW2
  have EP := hid hpb
  have EQ := hid hqb
  have hb0 : Below W2.heap.size W2 W2.drew := (Below.refl _ _).drew
  have HB0 := hid hb0
  obtain ⟨p0, p1, p2⟩ := PB
  obtain ⟨a1, c1, w5, hrunT, hownT, hbT⟩ := HT.out _ hb0
  obtain ⟨a2, c2, w7, hrunC, hownC, hbC⟩ := HC.out _ hb0
  obtain ⟨a3, c3, w6, hrunC2, hownC2, hbC2⟩ := HC.out _ (bl_step hb0 hbT)
  obtain ⟨a4, c4, w8, hrunT2, hownT2, hbT2⟩ := HT.out _ (bl_step hb0 hbC)
  have B5 := bl_step hb0 hbT
  have B7 := bl_step hb0 hbC
  have B6 := bl_step B5 hbC2
  have B8 := bl_step B7 hbT2
  obtain ⟨⟨x0, x1, x2, x3, x4, x5, x6⟩, HE6⟩ := HEND.out a1 c1 a3 c3 w6 B6 (gowns_below hownT hbC2) hownC2
  obtain ⟨⟨y0, y1, y2, y3, y4, y5, y6⟩, HE8⟩ := HEND.out a4 c4 a2 c2 w8 B8 hownT2 (gowns_below hownC hbT2)
  have s0 := cell_keep p0 B5
  have s1 := cell_keep p1 B5
  have s2 := cell_keep p2 B5
  have t0 := cell_keep p0 B7
  have t1 := cell_keep p1 B7
  have t2 := cell_keep p2 B7
  have v0 := cell_keep p0 B6
  have v1 := cell_keep p1 B6
  have v2 := cell_keep p2 B6
  have z0 := cell_keep p0 B8
  have z1 := cell_keep p1 B8
  have z2 := cell_keep p2 B8
  have H6 := hid HE6
  have H8 := hid HE8
  dsimp only [ProgD.v]
  clear hl hm hW2 hpb hqb b2 QB HT HC hts HEND hownT hbT hownC hbC hownC2 hbC2 hownT2 hbT2 B5 B7 B6 B8 HE6 HE8 HPB hb0
  go_enter Try.func6, Try.ntmps6
  go_wp2_with fail
  rw [← EW.out, ← EQ.out, ← EP.out]
  clear EW EQ EP
  go_region_law (first
    | (refine gapp_runR rfl _ _ rfl (by simp [Act.eval]) (by simp [Act.eval]) hrunT ?_)
    | (refine gapp_runR rfl _ _ rfl (by simp [Act.eval]) (by simp [Act.eval]) hrunC ?_)
    | (refine gapp_runR rfl _ _ rfl (by simp [Act.eval]) (by simp [Act.eval]) hrunC2 ?_)
    | (refine gapp_runR rfl _ _ rfl (by simp [Act.eval]) (by simp [Act.eval]) hrunT2 ?_))
  all_goals
    go_wp2
    first
      | exact bodyPost_ret (v := .agg #[.int .i64 d.slots, .slice a1 d.tabs.n c1, .slice a3 d.code.n c3]) (by simp [results, Try.results6, go_sem, *]) rfl H6.out
      | exact bodyPost_ret (v := .agg #[.int .i64 d.slots, .slice a4 d.tabs.n c4, .slice a2 d.code.n c2]) (by simp [results, Try.results6, go_sem, *]) rfl H8.out

theorem rown (d : ProgD) (w : World) (hl : d.lie w) (hm : d.small) : Calls Try.prog 6 #[d.v] w (OwnIs d w) :=
  (rown2 d w hl hm).mono fun _ _ ⟨q, h1, h2, h3, h4, h5, h6, h7, _⟩ => ⟨q, h1, h2, h3, h4, h5, h6, h7⟩
end Go.Proofs.Ytmohffibkpecpaa
