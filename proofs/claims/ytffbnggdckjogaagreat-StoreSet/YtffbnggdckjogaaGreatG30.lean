/- Texts of one chain, joined: SFace, SFind, SFind2. -/
import Derived.Test.YtffbnggdckjogaaGreatG26
import Derived.Test.YtffbnggdckjogaaGreatG28
import Derived.Test.YtffbnggdckjogaaGreatG27
import Derived.Test.YtffbnggdckjogaaGreatG29
import Derived.Test.YtffbnggdckjogaaGreatG21
import Derived.Test.YtffbnggdckjogaaGreatG9
namespace Go.Proofs.YtffbnggdckjogaaGreat
open Go.RowKit Mth
structure FK where
  kind : Int
  B : Nat
  p : Nat
  b : Nat
  K : Nat
  M : Nat
  wd : Int
  keys : Int
  most : Int
  Z : Nat → Prop
structure FSt where
  Cx : List UInt8 → Option (Int × List Int)
  ss : List (List UInt8)
  C : Told2
  es : List (Nat × Nat)
  T : List TE
def FaceAt (w : World) (k : FK) (s : FSt) : Prop :=
  (k.kind = 1 ∧ Ex.Tab w k.p k.b k.K k.M s.Cx s.ss ∧ k.B ≤ k.b ∧ k.K ≤ 1000 ∧ k.M ≤ 100000) ∨ (k.kind = 2 ∧ Tab w k.Z k.p k.wd k.most s.C s.es ∧ s.es.length ≤ 100000 ∧ k.most ≤ 100000 ∧ ∀ j, j < k.B → k.Z j) ∨ (k.kind = 3 ∧ MTab w k.B k.p k.keys k.most s.T ∧ s.T.length ≤ 100000 ∧ k.most ≤ 100000)
def faceV (k : FK) : Value := if k.kind = 1 then .iface 79 (boxV k.p) else if k.kind = 2 then .iface 83 (boxV k.p) else .iface 84 (.pointer (some ⟨k.p, 0, none⟩))
theorem FaceAt.step {w w' : World} {k : FK} {s : FSt} (h : FaceAt w k s) (hb : Below w.heap.size w w') : FaceAt w' k s := by
  rcases h with ⟨e, t, r⟩ | ⟨e, t, r⟩ | ⟨e, t, r⟩
  · exact .inl ⟨e, t.step hb, r⟩
  · exact .inr (.inl ⟨e, t.step hb, r⟩)
  · exact .inr (.inr ⟨e, t.step hb, r⟩)
def key0 (e : TE) : Nat := (e.ks.getD 0 0).toNat
def faceAdd (k : FK) (s : FSt) (e : TE) (ln : Int) : Int × FSt :=
  if k.kind = 1 then (Ex.addCode s.Cx s.ss k.K k.M e.ks.length (Ex.Mth.nm e.ks), { s with Cx := Ex.addXC s.Cx s.ss k.K k.M e.ks.length (Ex.Mth.nm e.ks) (e.ac, e.xs), ss := Ex.addXS s.Cx s.ss k.K k.M e.ks.length (Ex.Mth.nm e.ks) })
  else if k.kind = 2 then (addCode s.C s.es k.wd k.most (key0 e) ln, { s with C := addC s.C s.es k.wd k.most (key0 e) ln (e.ac, e.xs), es := addE s.C s.es k.wd k.most (key0 e) ln })
  else (addCM k.keys k.most s.T e, { s with T := addTM k.keys k.most s.T e })
def faceChg (k : FK) (s : FSt) (e : TE) (ln : Int) : Int × FSt :=
  if k.kind = 1 then (Ex.hasCode s.Cx k.K e.ks.length (Ex.Mth.nm e.ks), { s with Cx := Ex.chgXC s.Cx k.K e.ks.length (Ex.Mth.nm e.ks) (e.ac, e.xs) })
  else if k.kind = 2 then (hasCode s.C k.wd (key0 e) ln, { s with C := chgC s.C k.wd (key0 e) ln (e.ac, e.xs) })
  else (hasCM k.keys s.T e, { s with T := chgTM k.keys s.T e })
def faceDrop (k : FK) (s : FSt) (e : TE) (ln : Int) : Int × FSt :=
  if k.kind = 1 then (Ex.hasCode s.Cx k.K e.ks.length (Ex.Mth.nm e.ks), { s with Cx := Ex.dropXC s.Cx k.K e.ks.length (Ex.Mth.nm e.ks), ss := Ex.dropXS s.Cx s.ss k.K e.ks.length (Ex.Mth.nm e.ks) })
  else if k.kind = 2 then (hasCode s.C k.wd (key0 e) ln, { s with C := dropC s.C k.wd (key0 e) ln, es := dropE s.C s.es k.wd (key0 e) ln })
  else (hasCM k.keys s.T e, { s with T := dropTM k.keys s.T e })
def Own (w : World) (k : FK) (j : Nat) : Prop := (k.kind = 1 ∧ j = k.b) ∨ (k.kind = 2 ∧ ¬ k.Z j) ∨ (k.kind = 3 ∧ Two w k.p 2 j)
def FKeep (w w' : World) (k : FK) : Prop := w.heap.size ≤ w'.heap.size ∧ (∀ j, j < w.heap.size → ¬ Own w k j → w'.heap[j]? = w.heap[j]?) ∧ (∀ j, Own w' k j → Own w k j ∨ w.heap.size ≤ j) ∧ (k.kind = 2 → Moved w w')
theorem keep1 {w w' : World} {k : FK} (hk : k.kind = 1) (g : w.grownBy w' (some k.b)) : FKeep w w' k := by
  refine ⟨g.size, fun j hj hn => g.block j hj (fun e => hn (.inl ⟨hk, Option.some.inj e⟩)), fun j h => ?_, fun e => by omega⟩
  rcases h with h | ⟨e, _⟩ | ⟨e, _⟩
  · exact .inl (.inl h)
  · omega
  · omega
theorem keep2 {w w' : World} {k : FK} (hk : k.kind = 2) (m : BelZ k.Z w w') (mm : Moved w w') : FKeep w w' k := by
  refine ⟨m.b0.size, fun j hj hn => m.block j hj (Classical.byContradiction fun h => hn (.inr (.inl ⟨hk, h⟩))), fun j h => ?_, fun _ => mm⟩
  rcases h with ⟨e, _⟩ | ⟨_, h⟩ | ⟨e, _⟩
  · omega
  · exact .inl (.inr (.inl ⟨hk, h⟩))
  · omega
theorem keep3 {w w' : World} {k : FK} (hk : k.kind = 3) (f : Fr w w' k.p 2) : FKeep w w' k := by
  refine ⟨f.size, fun j hj hn => f.two hj (fun h => hn (.inr (.inr ⟨hk, h⟩))), fun j h => ?_, fun e => by omega⟩
  rcases h with ⟨e, _⟩ | ⟨e, _⟩ | ⟨_, h⟩
  · omega
  · omega
  · exact (f.more h).imp (fun h => .inr (.inr ⟨hk, h⟩)) id
theorem own_same {w w' : World} {k : FK} {j : Nat} (hb : Below w.heap.size w w') (_ : j < w.heap.size) (hp : k.kind = 3 → k.p < w.heap.size) (h : Own w' k j) : Own w k j := by
  rcases h with h | ⟨e, h⟩ | ⟨e, h⟩
  · exact .inl h
  · exact .inr (.inl ⟨e, h⟩)
  · refine .inr (.inr ⟨e, ?_⟩)
    rcases h with h | ⟨n, c, h⟩
    · exact .inl h
    · exact .inr ⟨n, c, by rw [hb.cell (p := ⟨k.p, 2, none⟩) (hp e)] at h; exact h⟩
def FTo (w w' : World) (k : FK) (s : FSt) (x : Int × FSt) : Prop := FaceAt w' k x.2 ∧ Below k.B w w' ∧ (x.1 ≠ 0 → x.2 = s ∧ Below w.heap.size w w') ∧ FKeep w w' k
theorem FaceAt.head {w : World} {k : FK} {s : FSt} (h : FaceAt w k s) : k.kind = 3 → k.p < w.heap.size := fun e => by
  rcases h with ⟨e', _⟩ | ⟨e', _⟩ | ⟨_, t, _⟩
  · omega
  · omega
  · exact World.block_lt_of_cell? _ _ t.c0
theorem FKeep.after {w wx w' : World} {k : FK} (hb : Below w.heap.size w wx) (hp : k.kind = 3 → k.p < w.heap.size) (h : FKeep wx w' k) : FKeep w w' k := by
  refine ⟨Nat.le_trans hb.size h.1, fun j hj hn => ?_, fun j hj => ?_, fun e => (moved_below hb).trans (h.2.2.2 e)⟩
  · rw [h.2.1 j (Nat.lt_of_lt_of_le hj hb.size) (fun ho => hn (own_same hb hj hp ho))]
    exact hb.block j hj
  · rcases Nat.lt_or_ge j w.heap.size with hl | hl
    · rcases h.2.2.1 j hj with ho | ho
      · exact .inl (own_same hb hl hp ho)
      · have := hb.size
        omega
    · exact .inr hl
theorem FKeep.trans {w w1 w2 : World} {k : FK} (h : FKeep w w1 k) (g : FKeep w1 w2 k) : FKeep w w2 k := by
  refine ⟨Nat.le_trans h.1 g.1, fun j hj hn => ?_, fun j hj => ?_, fun e => (h.2.2.2 e).trans (g.2.2.2 e)⟩
  · refine (g.2.1 j (Nat.lt_of_lt_of_le hj h.1) (fun o => ?_)).trans (h.2.1 j hj hn)
    rcases h.2.2.1 j o with o | o
    · exact hn o
    · omega
  · rcases g.2.2.1 j hj with o | o
    · exact h.2.2.1 j o
    · exact .inr (Nat.le_trans h.1 o)
theorem fkeep_below {w w' : World} {k : FK} (hb : Below w.heap.size w w') (hp : k.kind = 3 → k.p < w.heap.size) : FKeep w w' k := by
  refine ⟨hb.size, fun j hj _ => hb.block j hj, fun j o => ?_, fun _ => moved_below hb⟩
  rcases Nat.lt_or_ge j w.heap.size with h | h
  · exact .inl (own_same hb h hp o)
  · exact .inr h
theorem FTo.after {w wx w' : World} {k : FK} {s : FSt} {x : Int × FSt} (hb : Below w.heap.size w wx) (hB : k.B ≤ w.heap.size) (hp : k.kind = 3 → k.p < w.heap.size) (h : FTo wx w' k s x) : FTo w w' k s x := ⟨h.1, (hb.mono hB).trans h.2.1, fun h0 => ⟨(h.2.2.1 h0).1, bl_step hb (h.2.2.1 h0).2⟩, h.2.2.2.after hb hp⟩
theorem FaceAt.small {w : World} {k : FK} {s : FSt} (h : FaceAt w k s) : k.B ≤ w.heap.size := by
  rcases h with ⟨_, t, hB, _⟩ | ⟨_, t, _, _, hz⟩ | ⟨_, t, _⟩
  · obtain ⟨es, cl, e⟩ := t.isMap
    have := (Array.getElem?_eq_some_iff.1 e).1
    omega
  · obtain ⟨N, tr⟩ := t.tr
    rcases Nat.eq_zero_or_pos k.B with h0 | h0
    · omega
    · have := tr.zl _ (hz (k.B - 1) (by omega))
      omega
  · exact t.small
theorem grown_base {w w' : World} {B b : Nat} (h : w.grownBy w' (some b)) (hb : B ≤ b) (hB : B ≤ w.heap.size) : Below B w w' := (Below.refl B w).grown h hB (fun k hk => by cases hk; exact hb)
theorem face1_add {w : World} {k : FK} {s : FSt} {d : MD} {e : TE} (hk : k.kind = 1) (h : FaceAt w k s) (hd : d.good w e) :
    Calls Tryz.prog 92 #[boxV k.p, d.ev] w fun r w' => r = .returned (.int .i64 (faceAdd k s e d.ln).1) ∧ FTo w w' k s (faceAdd k s e d.ln) := by
  have hB := h.small
  rcases h with ⟨_, t, h1, h2, h3⟩ | ⟨e, _⟩ | ⟨e, _⟩
  · unfold faceAdd
    rw [if_pos hk, hd.ks.1]
    refine (wadd_any t h2 h3 hd).mono fun r w' hx => ⟨hx.1, .inl ⟨hk, hx.2.t, h1, h2, h3⟩, grown_base hx.2.g h1 hB, fun h0 => ⟨?_, hx.2.still h0⟩, keep1 hk hx.2.g⟩
    show FSt.mk _ _ _ _ _ = s
    unfold Ex.addXC Ex.addXS
    dsimp only at h0
    rw [if_neg h0, if_neg h0]
  · omega
  · omega
theorem face1_chg {w : World} {k : FK} {s : FSt} {d : MD} {e : TE} (hk : k.kind = 1) (h : FaceAt w k s) (hd : d.good w e) :
    Calls Tryz.prog 93 #[boxV k.p, d.ev] w fun r w' => r = .returned (.int .i64 (faceChg k s e d.ln).1) ∧ FTo w w' k s (faceChg k s e d.ln) := by
  have hB := h.small
  rcases h with ⟨_, t, h1, h2, h3⟩ | ⟨e, _⟩ | ⟨e, _⟩
  · unfold faceChg
    rw [if_pos hk, hd.ks.1]
    refine (wchg_any t h2 h3 hd).mono fun r w' hx => ⟨hx.1, .inl ⟨hk, hx.2.t, h1, h2, h3⟩, grown_base hx.2.g h1 hB, fun h0 => ⟨?_, hx.2.still h0⟩, keep1 hk hx.2.g⟩
    show FSt.mk _ _ _ _ _ = s
    unfold Ex.chgXC
    dsimp only at h0
    rw [if_neg h0]
  · omega
  · omega
theorem face1_drop {w : World} {k : FK} {s : FSt} {d : MD} {e : TE} (hk : k.kind = 1) (h : FaceAt w k s) (hd : d.good w e) :
    Calls Tryz.prog 94 #[boxV k.p, d.ev] w fun r w' => r = .returned (.int .i64 (faceDrop k s e d.ln).1) ∧ FTo w w' k s (faceDrop k s e d.ln) := by
  have hB := h.small
  rcases h with ⟨_, t, h1, h2, h3⟩ | ⟨e, _⟩ | ⟨e, _⟩
  · unfold faceDrop
    rw [if_pos hk, hd.ks.1]
    refine (wdrop_any t h2 hd).mono fun r w' hx => ⟨hx.1, .inl ⟨hk, hx.2.t, h1, h2, h3⟩, grown_base hx.2.g h1 hB, fun h0 => ⟨?_, hx.2.still h0⟩, keep1 hk hx.2.g⟩
    show FSt.mk _ _ _ _ _ = s
    unfold Ex.dropXC Ex.dropXS
    dsimp only at h0
    rw [if_neg h0, if_neg h0]
  · omega
  · omega
theorem addE_few {C : Told2} {es : List (Nat × Nat)} {wd most : Int} {key : Nat} {n : Int} (h : es.length ≤ 100000) (hm : most ≤ 100000) : (addE C es wd most key n).length ≤ 100000 := by
  unfold addE
  split
  · rename_i h0
    unfold addCode at h0
    split at h0
    · split at h0
      · cases h0
      · split at h0
        · cases h0
        · rw [List.length_append, List.length_singleton]
          omega
    · cases h0
  · exact h
theorem dropE_few {C : Told2} {es : List (Nat × Nat)} {wd : Int} {key : Nat} {n : Int} (h : es.length ≤ 100000) : (dropE C es wd key n).length ≤ 100000 := by
  unfold dropE
  split
  · exact Nat.le_trans List.length_erase_le h
  · exact h
theorem key1_key0 {d : MD} {e : TE} {w : World} {kg ko key : Nat} (h : Key1 d e w kg ko key) : key0 e = key := by
  unfold key0
  rw [h.k]
  simp
theorem face2_add {w : World} {k : FK} {s : FSt} {d : MD} {e : TE} (hk : k.kind = 2) (h : FaceAt w k s) (hd : d.good w e) (hn : d.kn = 1) :
    Calls Tryz.prog 110 #[boxV k.p, d.ev] w fun r w' => r = .returned (.int .i64 (faceAdd k s e d.ln).1) ∧ FTo w w' k s (faceAdd k s e d.ln) := by
  obtain ⟨kg, ko, key, hky⟩ := key1_of hd hn
  have hB := h.small
  rcases h with ⟨e, _⟩ | ⟨_, t, h1, h2, h3⟩ | ⟨e, _⟩
  · omega
  · unfold faceAdd
    rw [if_neg (by omega), if_pos hk, key1_key0 hky]
    refine (badd_any t hd hky h1).mono fun r w' hx => ⟨hx.1.1, .inr (.inl ⟨hk, hx.1.2.t, addE_few h1 h2, h2, h3⟩), hx.1.2.bel.to hB h3, fun h0 => ⟨?_, hx.2 h0⟩, keep2 hk hx.1.2.bel hx.1.2.mov⟩
    show FSt.mk _ _ _ _ _ = s
    unfold addC addE
    dsimp only at h0
    rw [if_neg h0, if_neg h0]
  · omega
theorem face2_chg {w : World} {k : FK} {s : FSt} {d : MD} {e : TE} (hk : k.kind = 2) (h : FaceAt w k s) (hd : d.good w e) (hn : d.kn = 1) :
    Calls Tryz.prog 111 #[boxV k.p, d.ev] w fun r w' => r = .returned (.int .i64 (faceChg k s e d.ln).1) ∧ FTo w w' k s (faceChg k s e d.ln) := by
  obtain ⟨kg, ko, key, hky⟩ := key1_of hd hn
  have hB := h.small
  rcases h with ⟨e, _⟩ | ⟨_, t, h1, h2, h3⟩ | ⟨e, _⟩
  · omega
  · unfold faceChg
    rw [if_neg (by omega), if_pos hk, key1_key0 hky]
    refine (bchg_any t hd hky).mono fun r w' hx => ⟨hx.1.1, .inr (.inl ⟨hk, hx.1.2.t, h1, h2, h3⟩), hx.1.2.bel.to hB h3, fun h0 => ⟨?_, hx.2 h0⟩, keep2 hk hx.1.2.bel hx.1.2.mov⟩
    show FSt.mk _ _ _ _ _ = s
    unfold chgC
    dsimp only at h0
    rw [if_neg h0]
  · omega
theorem face2_drop {w : World} {k : FK} {s : FSt} {d : MD} {e : TE} (hk : k.kind = 2) (h : FaceAt w k s) (hd : d.good w e) (hn : d.kn = 1) :
    Calls Tryz.prog 112 #[boxV k.p, d.ev] w fun r w' => r = .returned (.int .i64 (faceDrop k s e d.ln).1) ∧ FTo w w' k s (faceDrop k s e d.ln) := by
  obtain ⟨kg, ko, key, hky⟩ := key1_of hd hn
  have hB := h.small
  rcases h with ⟨e, _⟩ | ⟨_, t, h1, h2, h3⟩ | ⟨e, _⟩
  · omega
  · unfold faceDrop
    rw [if_neg (by omega), if_pos hk, key1_key0 hky]
    refine (bdrop_any t hky h1).mono fun r w' hx => ⟨hx.1.1, .inr (.inl ⟨hk, hx.1.2.t, dropE_few h1, h2, h3⟩), hx.1.2.bel.to hB h3, fun h0 => ⟨?_, hx.2 h0⟩, keep2 hk hx.1.2.bel hx.1.2.mov⟩
    show FSt.mk _ _ _ _ _ = s
    unfold dropC dropE
    dsimp only at h0
    rw [if_neg h0, if_neg h0]
  · omega
theorem addTM_few {keys most : Int} {T : List TE} {e : TE} (h : T.length ≤ 100000) (hm : most ≤ 100000) : (addTM keys most T e).length ≤ 100000 := by
  unfold addTM
  split
  · rename_i h0
    unfold addCM at h0
    split at h0
    · split at h0
      · cases h0
      · split at h0
        · cases h0
        · split at h0
          · cases h0
          · rw [List.length_append, List.length_cons, List.length_take, List.length_drop]
            omega
    · cases h0
  · exact h
theorem dropTM_few {keys : Int} {T : List TE} {e : TE} (h : T.length ≤ 100000) : (dropTM keys T e).length ≤ 100000 := by
  unfold dropTM
  split
  · exact Nat.le_trans (List.length_eraseIdx_le _ _) h
  · exact h
theorem chgTM_few {keys : Int} {T : List TE} {e : TE} (h : T.length ≤ 100000) : (chgTM keys T e).length ≤ 100000 := by
  unfold chgTM
  split
  · rw [List.length_set]; exact h
  · exact h
theorem face3_add {w : World} {k : FK} {s : FSt} {d : MD} {e : TE} (hk : k.kind = 3) (h : FaceAt w k s) (hd : d.good w e) :
    Calls Tryz.prog 114 #[.pointer (some ⟨k.p, 0, none⟩), d.ev] w fun r w' => r = .returned (.int .i64 (faceAdd k s e d.ln).1) ∧ FTo w w' k s (faceAdd k s e d.ln) := by
  rcases h with ⟨e, _⟩ | ⟨e, _⟩ | ⟨_, t, h1, h2⟩
  · omega
  · omega
  · unfold faceAdd
    rw [if_neg (by omega), if_neg (by omega)]
    refine (madd_anyS t hd h1).mono fun r w' hx => ⟨hx.1.1, .inr (.inr ⟨hk, hx.1.2.t, addTM_few h1 h2, h2⟩), hx.1.2.bel, fun h0 => ⟨?_, hx.2 h0⟩, keep3 hk hx.1.2.fr⟩
    show FSt.mk _ _ _ _ _ = s
    unfold addTM
    dsimp only at h0
    rw [if_neg h0]
theorem face3_chg {w : World} {k : FK} {s : FSt} {d : MD} {e : TE} (hk : k.kind = 3) (h : FaceAt w k s) (hd : d.good w e) :
    Calls Tryz.prog 116 #[.pointer (some ⟨k.p, 0, none⟩), d.ev] w fun r w' => r = .returned (.int .i64 (faceChg k s e d.ln).1) ∧ FTo w w' k s (faceChg k s e d.ln) := by
  rcases h with ⟨e, _⟩ | ⟨e, _⟩ | ⟨_, t, h1, h2⟩
  · omega
  · omega
  · unfold faceChg
    rw [if_neg (by omega), if_neg (by omega)]
    refine (mchg_anyS t hd h1).mono fun r w' hx => ⟨hx.1.1, .inr (.inr ⟨hk, hx.1.2.1.t, chgTM_few h1, h2⟩), hx.1.2.1.bel, fun h0 => ⟨?_, hx.2 h0⟩, keep3 hk hx.1.2.1.fr⟩
    show FSt.mk _ _ _ _ _ = s
    unfold chgTM
    dsimp only at h0
    rw [if_neg h0]
theorem face3_drop {w : World} {k : FK} {s : FSt} {d : MD} {e : TE} (hk : k.kind = 3) (h : FaceAt w k s) (hd : d.good w e) :
    Calls Tryz.prog 117 #[.pointer (some ⟨k.p, 0, none⟩), d.ev] w fun r w' => r = .returned (.int .i64 (faceDrop k s e d.ln).1) ∧ FTo w w' k s (faceDrop k s e d.ln) := by
  rcases h with ⟨e, _⟩ | ⟨e, _⟩ | ⟨_, t, h1, h2⟩
  · omega
  · omega
  · unfold faceDrop
    rw [if_neg (by omega), if_neg (by omega)]
    refine (mdrop_anyS t hd h1).mono fun r w' hx => ⟨hx.1.1, .inr (.inr ⟨hk, hx.1.2.t, dropTM_few h1, h2⟩), hx.1.2.bel, fun h0 => ⟨?_, hx.2 h0⟩, keep3 hk hx.1.2.fr⟩
    show FSt.mk _ _ _ _ _ = s
    unfold dropTM
    dsimp only at h0
    rw [if_neg h0]
theorem meth1Add (p : Nat) (w : World) : Sem.run Tryz.prog (method 296 79 (boxV p) "Add") w = .ok (92, boxV p) w := by kernel_rfl
theorem meth1Change (p : Nat) (w : World) : Sem.run Tryz.prog (method 296 79 (boxV p) "Change") w = .ok (93, boxV p) w := by kernel_rfl
theorem meth1Drop (p : Nat) (w : World) : Sem.run Tryz.prog (method 296 79 (boxV p) "Drop") w = .ok (94, boxV p) w := by kernel_rfl
theorem meth1All (p : Nat) (w : World) : Sem.run Tryz.prog (method 296 79 (boxV p) "All") w = .ok (55, .pointer (some ⟨p, 0, none⟩)) w := by kernel_rfl
theorem meth1Len (p : Nat) (w : World) : Sem.run Tryz.prog (method 296 79 (boxV p) "Len") w = .ok (59, .pointer (some ⟨p, 0, none⟩)) w := by kernel_rfl
theorem meth1Find (p : Nat) (w : World) : Sem.run Tryz.prog (method 296 79 (boxV p) "Find") w = .ok (58, .pointer (some ⟨p, 0, none⟩)) w := by kernel_rfl
theorem meth2Add (p : Nat) (w : World) : Sem.run Tryz.prog (method 296 83 (boxV p) "Add") w = .ok (110, boxV p) w := by kernel_rfl
theorem meth2Change (p : Nat) (w : World) : Sem.run Tryz.prog (method 296 83 (boxV p) "Change") w = .ok (111, boxV p) w := by kernel_rfl
theorem meth2Drop (p : Nat) (w : World) : Sem.run Tryz.prog (method 296 83 (boxV p) "Drop") w = .ok (112, boxV p) w := by kernel_rfl
theorem meth2All (p : Nat) (w : World) : Sem.run Tryz.prog (method 296 83 (boxV p) "All") w = .ok (96, .pointer (some ⟨p, 0, none⟩)) w := by kernel_rfl
theorem meth2Len (p : Nat) (w : World) : Sem.run Tryz.prog (method 296 83 (boxV p) "Len") w = .ok (100, .pointer (some ⟨p, 0, none⟩)) w := by kernel_rfl
theorem meth2Find (p : Nat) (w : World) : Sem.run Tryz.prog (method 296 83 (boxV p) "Find") w = .ok (113, boxV p) w := by kernel_rfl
theorem meth3Add (p : Nat) (w : World) : Sem.run Tryz.prog (method 296 84 (.pointer (some ⟨p, 0, none⟩)) "Add") w = .ok (114, .pointer (some ⟨p, 0, none⟩)) w := by kernel_rfl
theorem meth3Change (p : Nat) (w : World) : Sem.run Tryz.prog (method 296 84 (.pointer (some ⟨p, 0, none⟩)) "Change") w = .ok (116, .pointer (some ⟨p, 0, none⟩)) w := by kernel_rfl
theorem meth3Drop (p : Nat) (w : World) : Sem.run Tryz.prog (method 296 84 (.pointer (some ⟨p, 0, none⟩)) "Drop") w = .ok (117, .pointer (some ⟨p, 0, none⟩)) w := by kernel_rfl
theorem meth3All (p : Nat) (w : World) : Sem.run Tryz.prog (method 296 84 (.pointer (some ⟨p, 0, none⟩)) "All") w = .ok (115, .pointer (some ⟨p, 0, none⟩)) w := by kernel_rfl
theorem meth3Len (p : Nat) (w : World) : Sem.run Tryz.prog (method 296 84 (.pointer (some ⟨p, 0, none⟩)) "Len") w = .ok (119, .pointer (some ⟨p, 0, none⟩)) w := by kernel_rfl
theorem meth3Find (p : Nat) (w : World) : Sem.run Tryz.prog (method 296 84 (.pointer (some ⟨p, 0, none⟩)) "Find") w = .ok (118, .pointer (some ⟨p, 0, none⟩)) w := by kernel_rfl
end Go.Proofs.YtffbnggdckjogaaGreat

namespace Go.Proofs.YtffbnggdckjogaaGreat
open Go.RowKit Mth
def faceFind (k : FK) (f : FSt) (ks : List Int) : Option HitM :=
  if k.kind = 1 then Ex.found f.Cx k.K ks.length ks else if k.kind = 2 then (foundIn f.C k.wd (ks.getD 0 0).toNat).map Prod.fst else foundM k.keys f.T ks
def FindIs (w : World) (x : Option HitM) (r : Ending) (w' : World) : Prop := ∃ v, r = .returned (.tuple #[v, .bool x.isSome]) ∧ Says w' v (x.getD (0, [])) ∧ Below w.heap.size w w'
theorem hit_new {w w' : World} (hb : Below (w.alloc (.cells #[.int .i64 0, .slice none 0 0] 50)).drew.heap.size (w.alloc (.cells #[.int .i64 0, .slice none 0 0] 50)).drew w') : w'.cell? ⟨w.heap.size, 0, none⟩ = some (.int .i64 0) ∧ w'.cell? ⟨w.heap.size, 1, none⟩ = some (.slice none 0 0) ∧ w'.frozen? ⟨w.heap.size, 0, none⟩ = false ∧ w'.frozen? ⟨w.heap.size, 1, none⟩ = false ∧ w.heap.size < w'.heap.size :=
  ⟨(hb.cell (p := ⟨w.heap.size, 0, none⟩) (by simp)).trans (by simp), (hb.cell (p := ⟨w.heap.size, 1, none⟩) (by simp)).trans (by simp), (hb.frozen (p := ⟨w.heap.size, 0, none⟩) (by simp)).trans (by simp), (hb.frozen (p := ⟨w.heap.size, 1, none⟩) (by simp)).trans (by simp), by have := hb.size; simp at this; omega⟩
set_option maxHeartbeats 4000000 in
set_option maxRecDepth 20000 in
theorem bfind_any {w : World} {B : Nat → Prop} {p kg ko key c : Nat} {wd most : Int} {C : Told2} {es : List (Nat × Nat)} (t : Tab w B p wd most C es) (hk : key < 18446744073709551616) (hc : w.cell? ⟨kg, ko, none⟩ = some (.int .u64 (key : Int))) :
    Calls Tryz.prog 113 #[boxV p, .slice (some ⟨kg, ko, none⟩) 1 c] w (FindIs w ((foundIn C wd key).map Prod.fst)) := by
  obtain ⟨W2, hW2⟩ : ∃ W2, W2 = (w.alloc (.cells #[.pointer (some ⟨p, 0, none⟩)] 83)).alloc (.cells #[.int .i64 0, .slice none 0 0] 50) := ⟨_, rfl⟩
  obtain ⟨tb, htb⟩ : ∃ b, b = w.heap.size := ⟨_, rfl⟩
  obtain ⟨rb, hrb⟩ : ∃ b, b = w.heap.size + 1 := ⟨_, rfl⟩
  have b2 : Below w.heap.size w W2 := by rw [hW2]; exact bl_alloc (bl_alloc (Below.refl _ _))
  have c0 : W2.cell? ⟨tb, 0, none⟩ = some (.pointer (some ⟨p, 0, none⟩)) := by rw [hW2, htb]; simp
  have kc := cell_keep hc b2
  have r0 : W2.cell? ⟨rb, 0, none⟩ = some (.int .i64 0) := by rw [hW2, hrb]; simp
  have r1 : W2.cell? ⟨rb, 1, none⟩ = some (.slice none 0 0) := by rw [hW2, hrb]; simp
  have r2 : W2.frozen? ⟨rb, 0, none⟩ = false := by rw [hW2, hrb]; simp
  have r3 : W2.frozen? ⟨rb, 1, none⟩ = false := by rw [hW2, hrb]; simp
  have hrl : rb < W2.heap.size := World.block_lt_of_cell? _ _ r0
  have hrw : w.heap.size ≤ rb := by omega
  obtain ⟨R, hR⟩ : ∃ R, R = foundIn C wd key := ⟨_, rfl⟩
  have HX : Hid (∀ wx, Below W2.heap.size W2 wx → Calls Tryz.prog 99 #[.pointer (some ⟨p, 0, none⟩), .int .u64 (key : Int)] wx fun e w' => ∃ va vn vc, e = .returned (.tuple #[.agg #[.int .i64 (R.getD ((0, []), 0)).1.1, .slice va vn vc], .int .i64 ((R.getD ((0, []), 0)).2 : Int), .bool R.isSome]) ∧ Says w' (.agg #[.int .i64 (R.getD ((0, []), 0)).1.1, .slice va vn vc]) (R.getD ((0, []), 0)).1 ∧ Below W2.heap.size W2 w' ∧ Below wx.heap.size wx w') := fun wx hb => (find_any (t.step (bl_step b2 hb)) hk).mono fun e w' ⟨v, e1, ⟨va, vn, vc, e2, vr⟩, hb3⟩ => by
    subst e2
    rw [hR]
    exact ⟨va, vn, vc, e1, ⟨va, vn, vc, rfl, vr⟩, bl_step hb hb3, hb3⟩
  rw [← hR]
  have htl : tb < W2.heap.size := World.block_lt_of_cell? _ _ c0
  have hkl : kg < W2.heap.size := World.block_lt_of_cell? _ _ kc
  have c0' := cell_by c0
  have kc' := cell_by kc
  have HB := hid b2
  have EW := hid hW2
  have ET := hid htb
  have ER := hid hrb
  clear hW2 htb hrb b2 t hk hc hR
  haveI inhB : ∀ w : World, Inhabited (BelowBy w) := fun w => ⟨⟨w, Below.refl _ _⟩⟩
  go_enter Tryz.func113, Tryz.ntmps113
  go_upto_region 1 with fail
  rw [← EW.out, ← ER.out, ← ET.out]
  go_wp2_with fail
  go_region_with (go_at_call 99; refine (HX.out _ (by first | exact (Below.refl _ _).drew | exact (bl_alloc (Below.refl _ _)).drew)).mono ?_; rintro r w3 ⟨va, vn, vc, rfl, hs, hb3, hbx⟩; have x0 := cell_keep c0 hb3; have x1 := cell_keep kc hb3; have x2 := cell_keep r0 hb3; have x3 := cell_keep r1 hb3; have x4 := (hb3.frozen (p := ⟨rb, 0, none⟩) hrl).trans r2; have x5 := (hb3.frozen (p := ⟨rb, 1, none⟩) hrl).trans r3; have x6 : rb < w3.heap.size := Nat.lt_of_lt_of_le hrl hb3.size; first | (have y := hit_new hbx) | (have y := hbx))
  all_goals
    have fin : ∀ w4, Says w4 (.agg #[.int .i64 (R.getD ((0, []), 0)).1.1, .slice va vn vc]) (R.getD ((0, []), 0)).1 → Below w.heap.size w w4 → FindIs w (R.map Prod.fst) (.returned (.tuple #[.agg #[.int .i64 (R.getD ((0, []), 0)).1.1, .slice va vn vc], .bool R.isSome])) w4 := fun w4 h1 h2 => ⟨_, by rw [Option.isSome_map], by rw [show (R.map Prod.fst).getD (0, []) = (R.getD ((0, []), 0)).1 by cases R <;> rfl]; exact h1, h2⟩
    have FIN := hid fin
    have B3 := bl_step HB.out hb3
    have HDB : Hid (∀ u v o, Says (((w3.setCell ⟨rb, 0, none⟩ u).setCell ⟨rb, 1, none⟩ v).alloc o) (.agg #[.int .i64 (R.getD ((0, []), 0)).1.1, .slice va vn vc]) (R.getD ((0, []), 0)).1 ∧ Below w.heap.size w (((w3.setCell ⟨rb, 0, none⟩ u).setCell ⟨rb, 1, none⟩ v).alloc o)) := fun u v o => ⟨(hs.over x2 x3 u v).moved (moved_alloc _ _), bl_alloc ((B3.setCell (p := ⟨rb, 0, none⟩) hrw _).setCell (p := ⟨rb, 1, none⟩) hrw _)⟩
    have HDA : Hid (∀ tb u v u' v', W2.heap.size ≤ tb → w3.cell? ⟨tb, 0, none⟩ = some (.int .i64 0) → w3.cell? ⟨tb, 1, none⟩ = some (.slice none 0 0) → tb ≠ rb → Says ((((w3.setCell ⟨tb, 0, none⟩ u).setCell ⟨tb, 1, none⟩ v).setCell ⟨rb, 0, none⟩ u').setCell ⟨rb, 1, none⟩ v') (.agg #[.int .i64 (R.getD ((0, []), 0)).1.1, .slice va vn vc]) (R.getD ((0, []), 0)).1 ∧ Below w.heap.size w ((((w3.setCell ⟨tb, 0, none⟩ u).setCell ⟨tb, 1, none⟩ v).setCell ⟨rb, 0, none⟩ u').setCell ⟨rb, 1, none⟩ v')) := fun tb u v u' v' hle y0 y1 hne => by
      have far : ∀ o, ((w3.setCell ⟨tb, 0, none⟩ u).setCell ⟨tb, 1, none⟩ v).cell? ⟨rb, o, none⟩ = w3.cell? ⟨rb, o, none⟩ := fun o => (World.cell?_setCell_far _ _ _ _ (by show tb ≠ rb; exact hne)).trans (World.cell?_setCell_far _ _ _ _ (by show tb ≠ rb; exact hne))
      have hle2 : w.heap.size ≤ tb := by omega
      exact ⟨(hs.over y0 y1 u v).over ((far 0).trans x2) ((far 1).trans x3) u' v', (((B3.setCell (p := ⟨tb, 0, none⟩) hle2 _).setCell (p := ⟨tb, 1, none⟩) hle2 _).setCell (p := ⟨rb, 0, none⟩) hrw _).setCell (p := ⟨rb, 1, none⟩) hrw _⟩
    have hnr : ¬ W2.heap.size = rb := by omega
    have HY := hid y
    clear fin hs hb3 hbx x0 x1 c0 kc c0' kc' r0 r1 r2 r3 HX HB B3
    go_wp2
    first
      | (obtain ⟨y0, y1, -⟩ : _ ∧ _ ∧ _ := HY.out
         have hh := HDA.out _ (.int .i64 (R.getD ((0, []), 0)).1.1) (.slice va vn vc) (.int .i64 (R.getD ((0, []), 0)).1.1) (.slice va vn vc) (Nat.le_refl _) y0 y1 hnr
         refine bodyPost_ret (v := .tuple #[.agg #[.int .i64 (R.getD ((0, []), 0)).1.1, .slice va vn vc], .bool R.isSome]) ?_ rfl (FIN.out _ hh.1 hh.2)
         simp [results, Tryz.results113, go_sem, *])
      | (have hh := HDB.out (.int .i64 (R.getD ((0, []), 0)).1.1) (.slice va vn vc) (.cells #[.int .i64 (R.getD ((0, []), 0)).1.1, .slice va vn vc] 50)
         refine bodyPost_ret (v := .tuple #[.agg #[.int .i64 (R.getD ((0, []), 0)).1.1, .slice va vn vc], .bool R.isSome]) ?_ rfl (FIN.out _ hh.1 hh.2)
         simp [results, Tryz.results113, go_sem, *])
end Go.Proofs.YtffbnggdckjogaaGreat

namespace Go.Proofs.YtffbnggdckjogaaGreat
open Go.RowKit Mth
theorem face1_find {w : World} {k : FK} {f : FSt} {a : Option Addr} {n c : Nat} {ks : List Int} (hk : k.kind = 1) (h : FaceAt w k f) (hs : Has .u64 w a n ks) :
    Calls Tryz.prog 58 #[.pointer (some ⟨k.p, 0, none⟩), .slice a n c] w (FindIs w (faceFind k f ks)) := by
  rcases h with ⟨_, t, h1, h2, h3⟩ | ⟨e, _⟩ | ⟨e, _⟩
  · unfold faceFind
    rw [if_pos hk, hs.1]
    exact Ex.find_any t h2 hs
  · omega
  · omega
theorem face2_find {w : World} {k : FK} {f : FSt} {a : Option Addr} {c : Nat} {ks : List Int} (hk : k.kind = 2) (h : FaceAt w k f) (hs : Has .u64 w a 1 ks) :
    Calls Tryz.prog 113 #[boxV k.p, .slice a 1 c] w (FindIs w (faceFind k f ks)) := by
  obtain ⟨kg, ko, ea, _, hc⟩ := hs.some (by omega)
  have hl : ks.length = 1 := hs.1
  obtain ⟨x, hx⟩ : ∃ x, ks = [x] := by
    match he : ks, hl with
    | [x], _ => exact ⟨x, rfl⟩
  have hx0 := hs.nums x (by rw [hx]; simp)
  have cc := hc 0 (by omega)
  rw [hx] at cc
  obtain ⟨key, rfl⟩ : ∃ k : Nat, x = k := ⟨x.toNat, by omega⟩
  rcases h with ⟨e, _⟩ | ⟨_, t, h1, h2, _⟩ | ⟨e, _⟩
  · omega
  · unfold faceFind
    rw [if_neg (by omega), if_pos hk, hx, ea, show ([(key : Int)].getD 0 0).toNat = key by simp]
    exact bfind_any t (by omega) (by simpa using cc)
  · omega
theorem face3_find {w : World} {k : FK} {f : FSt} {a : Option Addr} {n c : Nat} {ks : List Int} (hk : k.kind = 3) (h : FaceAt w k f) (hs : Has .u64 w a n ks) :
    Calls Tryz.prog 118 #[.pointer (some ⟨k.p, 0, none⟩), .slice a n c] w (FindIs w (faceFind k f ks)) := by
  rcases h with ⟨e, _⟩ | ⟨e, _⟩ | ⟨_, t, h1, h2⟩
  · omega
  · omega
  · unfold faceFind
    rw [if_neg (by omega), if_neg (by omega)]
    exact mfind_any t hs h1
end Go.Proofs.YtffbnggdckjogaaGreat
