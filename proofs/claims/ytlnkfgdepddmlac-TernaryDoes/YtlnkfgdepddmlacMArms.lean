/- Both tables by masks through one round of TernaryDoes. -/
import Derived.Test.YtlnkfgdepddmlacMApart
import Derived.Test.YtlnkfgdepddmlacMSame
namespace Go.Proofs.Ytlnkfgdepddmlac
open Go.RowKit Mth

/-- both tables hold the same -/
def TD (w : World) (p r : Nat) (keys most : Int) (k : Nat) (wr : World) : Prop := (∃ T E, MTab wr w.heap.size p keys most T ∧ KRws wr w.heap.size r keys most E ∧ Apart wr p r ∧ T.Perm E ∧ T.length ≤ k) ∧ Below w.heap.size w wr

/-- in the midst of a round -/
def MMid (w wm : World) (p r eb : Nat) (keys most : Int) (k : Nat) (f : MD) (e : TE) : Prop :=
  ∃ T E, MTab wm w.heap.size p keys most T ∧ KRws wm w.heap.size r keys most E ∧ Apart wm p r ∧ T.Perm E ∧ T.length ≤ k + 1 ∧ Below w.heap.size w wm ∧ f.at wm eb 0 ∧ f.good wm e

theorem at_kept {w w' : World} {f : MD} {eb : Nat} (h : f.at w eb 0) (hb : w'.heap[eb]? = w.heap[eb]?) : f.at w' eb 0 := by
  have cs : ∀ i, w'.cell? ⟨eb, i, none⟩ = w.cell? ⟨eb, i, none⟩ := fun i => World.cell?_of_block (w := w) (w' := w') (a := ⟨eb, i, none⟩) hb
  exact ⟨(cs _).trans h.c0, (cs _).trans h.c1, (cs _).trans h.c2, (cs _).trans h.c3, (cs _).trans h.c4, (cs _).trans h.c5⟩

/-- an entry's block that is newer than a table stays when the table turns -/
theorem mnew_stay {w w6 w8 : World} {B p eb : Nat} {keys most : Int} {T : List TE} (t : MTab w B p keys most T) (hb : Below w.heap.size w w6) (hf : Fr w6 w8 p 2) (h1 : w.heap.size ≤ eb) (h2 : eb < w6.heap.size) : w8.heap[eb]? = w6.heap[eb]? := by
  refine hf.two h2 (fun h => ?_)
  rw [two_stay (hb.block p (World.block_lt_of_cell? w _ t.c0))] at h
  have := t.two_lt h
  omega

theorem knew_stay {w w8 w9 : World} {B r eb : Nat} {keys most : Int} {E : List TE} (s : KRws w B r keys most E) (hr : w8.heap[r]? = w.heap[r]?) (hf : Fr w8 w9 r 4) (h1 : w.heap.size ≤ eb) (h2 : eb < w8.heap.size) : w9.heap[eb]? = w8.heap[eb]? := by
  refine hf.two h2 (fun h => ?_)
  rw [two_stay hr] at h
  have := s.two_lt h
  omega

theorem head_stay {w w6 w8 : World} {B p r : Nat} {keys most : Int} {T E : List TE} (t : MTab w B p keys most T) (s : KRws w B r keys most E) (hA : Apart w p r) (hb : Below w.heap.size w w6) (hf : Fr w6 w8 p 2) : w8.heap[r]? = w.heap[r]? := by
  have hr := World.block_lt_of_cell? w _ s.hd.c0
  rw [hf.two (Nat.lt_of_lt_of_le hr hb.size) (fun h => ?_)]
  · exact hb.block r hr
  · rw [two_stay (hb.block p (World.block_lt_of_cell? w _ t.c0))] at h
    exact hA r h (.inl rfl)

theorem mmid_next {w wr w6 w8 w9 : World} {p r eb : Nat} {keys most : Int} {T E T' E' : List TE} {k : Nat} {f : MD} {e : TE} (h0 : Below w.heap.size w wr) (t : MTab wr w.heap.size p keys most T) (s : KRws wr w.heap.size r keys most E) (hA : Apart wr p r) (h5 : Below wr.heap.size wr w6) (fc : f.at w6 eb 0) (heb : wr.heap.size ≤ eb) (fg : f.good w6 e) (fn : f.new 0)
    (t8 : MTo w6 w8 w.heap.size p keys most T') (t9 : KTo w8 w9 w.heap.size r keys most E') (hp : T'.Perm E') (hl : T'.length ≤ k + 1) : MMid w w9 p r eb keys most k f e := by
  have t6 := t.step h5
  have s6 := s.step h5
  have hA6 := hA.step t s h5
  obtain ⟨s8, hA8⟩ := krws_beside t6 s6 hA6 t8.fr
  have q := head_stay t s hA h5 t8.fr
  have hel : eb < w6.heap.size := World.block_lt_of_cell? w6 _ fc.c0
  have b8 := mnew_stay t h5 t8.fr heb hel
  have b9 := knew_stay s q t9.fr heb (Nat.lt_of_lt_of_le hel t8.fr.size)
  have fg8 := good_kept t8.fr t6.num fg fn
  have fg9 := good_kept t9.fr s8.num fg8 fn
  have hA8' : Apart w8 p r := hA8
  obtain ⟨t9', hA9⟩ := mtab_beside t8.t s8 hA8' t9.fr
  exact ⟨T', E', t9', t9.t, hA9, hp, hl, ((bl_step h0 h5).trans t8.bel).trans t9.bel, at_kept (at_kept fc b8) b9, fg9⟩

/-- the codes are the same, and so is what is there then -/
theorem kadd_perm {w : World} {B r : Nat} {keys most : Int} {T E : List TE} {f : MD} {e : TE} (hp : T.Perm E) (t : KRws w B r keys most E) (hf : f.good w e) (hn : E.length ≤ 100000) :
    Calls Try.prog 13 #[.pointer (some ⟨r, 0, none⟩), f.ev] w fun q w' => q = .returned (.int .i64 (addCM keys most T e)) ∧ ∃ E', KTo w w' B r keys most E' ∧ (addTM keys most T e).Perm E' := by
  refine (kadd_any t hf hn).mono fun q w' ⟨h1, h2⟩ => ⟨by rw [h1, addC_perm hp], _, h2, ?_⟩
  rw [addTM, addC_perm hp]
  split
  · exact add_perm hp _ e
  · exact hp

theorem kchg_perm {w : World} {B r : Nat} {keys most : Int} {T E : List TE} {f : MD} {e : TE} (hs : SortedM T) (hp : T.Perm E) (t : KRws w B r keys most E) (hf : f.good w e) (hn : E.length ≤ 100000) :
    Calls Try.prog 15 #[.pointer (some ⟨r, 0, none⟩), f.ev] w fun q w' => q = .returned (.int .i64 (hasCM keys T e)) ∧ ∃ E', KTo w w' B r keys most E' ∧ (chgTM keys T e).Perm E' := by
  refine (kchg_any t hf hn).mono fun q w' ⟨h1, h2⟩ => ⟨by rw [h1, hasC_perm hp], ?_⟩
  unfold chgTM
  rw [hasC_perm hp]
  rcases h2 with ⟨h2, h3⟩ | ⟨h2, j, x, hx, hsx, h3⟩
  · exact ⟨E, h3, by rw [if_neg h2]; exact hp⟩
  · exact ⟨_, h3, by rw [if_pos h2]; exact chg_perm hs hp hx hsx⟩

theorem kdrop_perm {w : World} {B r : Nat} {keys most : Int} {T E : List TE} {f : MD} {e : TE} (hs : SortedM T) (hp : T.Perm E) (t : KRws w B r keys most E) (hf : f.good w e) (hn : E.length ≤ 100000) :
    Calls Try.prog 17 #[.pointer (some ⟨r, 0, none⟩), f.ev] w fun q w' => q = .returned (.int .i64 (hasCM keys T e)) ∧ ∃ E', KTo w w' B r keys most E' ∧ (dropTM keys T e).Perm E' := by
  refine (kdrop_any t hf hn).mono fun q w' ⟨h1, h2⟩ => ⟨by rw [h1, hasC_perm hp], ?_⟩
  unfold dropTM
  rw [hasC_perm hp]
  rcases h2 with ⟨h2, h3⟩ | ⟨h2, j, x, hx, hsx, h3⟩
  · exact ⟨E, h3, by rw [if_neg h2]; exact hp⟩
  · exact ⟨_, h3, by rw [if_pos h2]; exact drop_perm hs hp hx hsx⟩

theorem addT_le {keys most : Int} {T : List TE} {e : TE} {k : Nat} (h : T.length ≤ k) : (addTM keys most T e).length ≤ k + 1 := by
  unfold addTM
  split
  · rw [List.length_append, List.length_cons, List.length_take, List.length_drop]; omega
  · omega

theorem chgT_le {keys : Int} {T : List TE} {e : TE} {k : Nat} (h : T.length ≤ k) : (chgTM keys T e).length ≤ k + 1 := by
  unfold chgTM
  split
  · rw [List.length_set]; omega
  · omega

theorem dropT_le {keys : Int} {T : List TE} {e : TE} {k : Nat} (h : T.length ≤ k) : (dropTM keys T e).length ≤ k + 1 := by
  unfold dropTM
  split
  · rw [List.length_eraseIdx]; split <;> omega
  · omega

/-- an entry's cells and a step's stay -/
theorem keepME {w w' : World} {s g o : Nat} {x0 x1 x2 x3 x4 x5 y0 y1 y2 y3 y4 y5 : Value} (h : w.cell? ⟨s, 0, none⟩ = some x0 ∧ w.cell? ⟨s, 1, none⟩ = some x1 ∧ w.cell? ⟨s, 2, none⟩ = some x2 ∧ w.cell? ⟨s, 3, none⟩ = some x3 ∧ w.cell? ⟨s, 4, none⟩ = some x4 ∧ w.cell? ⟨s, 5, none⟩ = some x5 ∧ w.cell? ⟨g, o + 1, none⟩ = some y0 ∧ w.cell? ⟨g, o + 2, none⟩ = some y1 ∧ w.cell? ⟨g, o + 3, none⟩ = some y2 ∧ w.cell? ⟨g, o + 4, none⟩ = some y3 ∧ w.cell? ⟨g, o + 5, none⟩ = some y4 ∧ w.cell? ⟨g, o + 6, none⟩ = some y5) (hs : w'.heap[s]? = w.heap[s]?) (hg : w'.heap[g]? = w.heap[g]?) :
    w'.cell? ⟨s, 0, none⟩ = some x0 ∧ w'.cell? ⟨s, 1, none⟩ = some x1 ∧ w'.cell? ⟨s, 2, none⟩ = some x2 ∧ w'.cell? ⟨s, 3, none⟩ = some x3 ∧ w'.cell? ⟨s, 4, none⟩ = some x4 ∧ w'.cell? ⟨s, 5, none⟩ = some x5 ∧ w'.cell? ⟨g, o + 1, none⟩ = some y0 ∧ w'.cell? ⟨g, o + 2, none⟩ = some y1 ∧ w'.cell? ⟨g, o + 3, none⟩ = some y2 ∧ w'.cell? ⟨g, o + 4, none⟩ = some y3 ∧ w'.cell? ⟨g, o + 5, none⟩ = some y4 ∧ w'.cell? ⟨g, o + 6, none⟩ = some y5 := by
  have cs : ∀ i, w'.cell? ⟨s, i, none⟩ = w.cell? ⟨s, i, none⟩ := fun i => World.cell?_of_block (w := w) (w' := w') (a := ⟨s, i, none⟩) hs
  have cg : ∀ i, w'.cell? ⟨g, i, none⟩ = w.cell? ⟨g, i, none⟩ := fun i => World.cell?_of_block (w := w) (w' := w') (a := ⟨g, i, none⟩) hg
  rw [cs, cs, cs, cs, cs, cs, cg, cg, cg, cg, cg, cg]
  exact h
end Go.Proofs.Ytlnkfgdepddmlac
