/- What Drop of the document's own table by masks does. -/
import Derived.Test.YtlnkfgdepddmlacKAdd
import Derived.Test.YtlnkfgdepddmlacMDrop
namespace Go.Proofs.Ytlnkfgdepddmlac
open Go.RowKit Mth

/-- one append of a region: m entries behind a row of one's own -/
theorem kstepM {ops : Array Oper} {o : Oper} {a : Act} {w : World} {K : Act → World → Prop} {Q : Exit → Act → World → Prop} {F : Prop} (hgd : o.guard = none) (s x : Operand)
    (ho : o.op = .call { callee := .builtin .append, args := #[s, x], argTypes := #[28, 28] }) (base n m : Nat) (v : Value) (xs news : List Value) (ad : Addr) (c : Nat)
    (hs : a.eval s = v) (hx : a.eval x = .slice (some ad) m c) (hown : w.ownsRow base 33 6 v n xs) (hl : news.length = m * 6) (hn : ∀ j u, news[j]? = some u → w.cell? (ad.add j) = some u) (h1 : ∀ u ∈ news, u.oneCell' = true)
    (hsm : n + m ≤ 100001) (hbase : base ≤ w.heap.size) (h : ∀ v' w', w'.ownsRow base 33 6 v' (n + m) (xs ++ news) → w.grownBy w' v.ownBlock → (v' = .slice none 0 0 ↔ v = .slice none 0 0 ∧ m = 0) → K (a.put o.dst v') w') :
    if Region.wanted o (yielded ops a.tmps) = true then Oper.wp Try.prog o a w K Q else F := by
  have hw : Region.wanted o (yielded ops a.tmps) = true := by simp [Region.wanted, hgd]
  rw [if_pos hw]
  obtain ⟨i0, hi, hz0, hz1, hz2⟩ := info_parts Try.infoEntry
  refine wp_append_own w s x 28 ho base 33 i0 NoEntry 6 96 Try.underlying28 hi hz0 hz1 hz2 rfl (by decide) v n xs hs hown ad m c news hx hl hn h1 (by unfold maxLen; omega) (by omega) hbase ?_
  intro v' w' r1 r2 r3
  exact h v' w' r1 r2 r3

theorem kgrown_none {w w' : World} (h : w.grownBy w' (Value.slice none 0 0).ownBlock) : Below w.heap.size w w' := (Below.refl _ _).grown h (Nat.le_refl _) (by intro k hk; cases hk)

theorem kown_grown {w w' : World} {Z n : Nat} {v : Value} {xs : List Value} (hZ : Z ≤ w.heap.size) (h : w.ownsRow Z 33 6 v n xs) (g : w.grownBy w' v.ownBlock) : Below Z w w' :=
  ⟨g.os, g.tape, g.output, g.size, fun k hk => g.block k (by omega) (fun e => by have := (h.lt k e.symm).1; omega)⟩

theorem kown6_is {w : World} {Z n : Nat} {v : Value} {xs : List Value} (h : w.ownsRow Z 33 6 v n xs) : ∃ a c, v = .slice a n c := by
  rcases h.2 with ⟨rfl, rfl⟩ | ⟨g, c, cur, rfl, _⟩
  · exact ⟨none, 0, rfl⟩
  · exact ⟨_, c, rfl⟩

theorem kown_mono {w : World} {Z B n : Nat} {v : Value} {xs : List Value} (h : w.ownsRow Z 33 6 v n xs) (hB : B ≤ Z) : w.ownsRow B 33 6 v n xs := by
  refine ⟨h.1, ?_⟩
  rcases h.2 with h2 | ⟨g, c, cur, hv, hg, r⟩
  · exact .inl h2
  · exact .inr ⟨g, c, cur, hv, Nat.le_trans hB hg, r⟩

/-- Change or Drop: the code, and what is there then -/
def KHasDone (w w' : World) (B r : Nat) (keys most : Int) (E : List TE) (e : TE) (f : Nat → List TE) (q : Ending) : Prop :=
  q = .returned (.int .i64 (hasCM keys E e)) ∧ ((hasCM keys E e ≠ 0 ∧ KTo w w' B r keys most E) ∨ (hasCM keys E e = 0 ∧ ∃ (j : Nat) (x : TE), E[j]? = some x ∧ SameP x e ∧ KTo w w' B r keys most (f j)))

theorem khas_keep {w w' : World} {B r : Nat} {keys most : Int} {E : List TE} {e : TE} {f : Nat → List TE} {c : Int} (t : KRws w B r keys most E) (hb : Below w.heap.size w w') (hc : hasCM keys E e = c) (h0 : c ≠ 0) : KHasDone w w' B r keys most E e f (.returned (.int .i64 c)) :=
  ⟨by rw [hc], .inl ⟨by rw [hc]; exact h0, KTo.same t hb⟩⟩

/-- an entry less -/
theorem kdrop_end {w w2 w4 : World} {B r : Nat} {keys most : Int} {E : List TE} {e x : TE} {g cap : Nat} {ds : List MD} {j u : Nat} {a2 : Option Addr} {c2 : Nat} {v1 : Value} (t : KRws w B r keys most E) (hg : GoodM keys e) (hjx : E[j]? = some x) (hs : SameP x e) (hb : Below w.heap.size w w4) (h4 : w.cell? ⟨r, 4, none⟩ = some (.slice (some ⟨g, 0, none⟩) E.length cap))
    (hlen : ds.length = E.length) (hu : u = j + 1) (hgd : ∀ (i : Nat) (d : MD) (e : TE), ds[i]? = some d → E[i]? = some e → d.good w2 e ∧ d.new 0 ∧ d.ln = 0) (hb2 : Below w2.heap.size w2 w4) (hBz : w.heap.size ≤ w2.heap.size)
    (ho : w4.ownsRow w2.heap.size 33 6 (.slice a2 (j + (E.length - u)) c2) (j + (E.length - u)) ((ds.flatMap MD.cells).take (j * 6) ++ (ds.flatMap MD.cells).drop (u * 6))) (hn3 : v1 = .slice none 0 0 ↔ Value.slice none 0 0 = .slice none 0 0 ∧ j = 0) (hn4 : Value.slice a2 (j + (E.length - u)) c2 = .slice none 0 0 ↔ v1 = .slice none 0 0 ∧ E.length - u = 0) :
    KHasDone w (w4.setCell ⟨r, 4, none⟩ (.slice a2 (j + (E.length - u)) c2)) B r keys most E e (fun j => E.eraseIdx j) (.returned (.int .i64 0)) := by
  have hcode : hasCM keys E e = 0 := by unfold hasCM; rw [if_pos hg, if_pos ⟨x, List.mem_of_getElem? hjx, hs⟩]
  refine ⟨by rw [hcode], .inr ⟨hcode, j, x, hjx, hs, ?_⟩⟩
  have hjl : j < E.length := (List.getElem?_eq_some_iff.1 hjx).1
  subst hu
  have hlE : (E.eraseIdx j).length = j + (E.length - (j + 1)) := by rw [List.length_eraseIdx, if_pos hjl]; omega
  have hlD : (ds.eraseIdx j).length = j + (E.length - (j + 1)) := by rw [List.length_eraseIdx, if_pos (by omega)]; omega
  rw [mflat_take, mflat_drop, ← List.flatMap_append, ← List.eraseIdx_eq_take_drop_succ] at ho
  have hcr : w4.cell? ⟨r, 0, none⟩ = some (.int .i64 3) := (t.hd.step hb).c0
  show KTo w _ B r keys most (E.eraseIdx j)
  refine krws_new t hb h4 (World.grownBy.refl _ _) (fun v => ?_) hlE (fun y hy => t.good y ((List.eraseIdx_sublist E j).subset hy)) (fun g' e' => ?_)
  · by_cases h0 : j + (E.length - (j + 1)) = 0
    · have e2 := hn4.2 ⟨hn3.2 ⟨rfl, by omega⟩, by omega⟩
      simp only [Value.slice.injEq] at e2
      obtain ⟨rfl, _, rfl⟩ := e2
      rw [h0]
      have : E.eraseIdx j = [] := List.eq_nil_of_length_eq_zero (by omega)
      rw [this]
      exact mrow_nil _ _
    · obtain ⟨g5, c5, e5⟩ := own6v ho (by omega)
      simp only [Value.slice.injEq, true_and] at e5
      obtain ⟨rfl, rfl⟩ := e5
      have hc5 : ∃ a m c, w4.cell? ⟨g5, 0, none⟩ = some (.slice a m c) := by
        have hc : w4.cell? ⟨g5, 0, none⟩ = ((ds.eraseIdx j).flatMap MD.cells)[0]? := by rw [ho.cellAt 0 (by omega)]
        have h1 := mflat_at (ds.eraseIdx j) 0 0 (by omega) (by omega)
        simp only [Nat.mul_zero, Nat.add_zero] at h1
        rw [h1] at hc
        exact ⟨_, _, _, hc⟩
      have hgr : g5 ≠ r := fun e2 => by obtain ⟨a, m, c, h⟩ := hc5; rw [e2, hcr] at h; cases h
      refine ⟨⟨ds.eraseIdx j, hlD, hlE, owns_set (kown_mono ho (Nat.le_trans t.small hBz)) hgr, fun i d e hd he => ?_⟩, fun g' eg => ?_⟩
      · have key : d.good w2 e ∧ d.new 0 ∧ d.ln = 0 := by
          rcases at_erase hd with ⟨q1, q2⟩ | ⟨q1, q2⟩ <;> rcases at_erase he with ⟨r1, r2⟩ | ⟨r1, r2⟩ <;> first | omega | skip
          · exact hgd i d e q2 r2
          · exact hgd (i + 1) d e q2 r2
        exact ⟨(key.1.step hb2).keep key.2.1 (fun a m zs f h => has_keep (la := none) (n := 0) (cap := 0) (w6 := w4) (World.grownBy.refl w4 _) (by simp) hcr 4 v f h), key.2⟩
      · have e1 : g5 = g' := by simpa using eg
        subst e1
        obtain ⟨a, m, c, h⟩ := hc5
        exact ⟨a, m, c, (World.cell?_setCell_other _ _ _ _ (fun e => hgr (by have := congrArg Addr.block e; simp only at this; omega))).trans h⟩
  · subst e'
    exact .inr (Nat.le_trans hBz (ho.lt g' rfl).1)

set_option maxHeartbeats 8000000 in
set_option maxRecDepth 20000 in
theorem kdrop_any {w : World} {B r : Nat} {keys most : Int} {E : List TE} {f : MD} {e : TE} (t : KRws w B r keys most E) (hf : f.good w e) (hn : E.length ≤ 100000) :
    Calls Try.prog 17 #[.pointer (some ⟨r, 0, none⟩), f.ev] w fun q w' => KHasDone w w' B r keys most E e (fun j => E.eraseIdx j) q := by
  have hb0 := bl_alloc (o := f.ec) (Below.refl w.heap.size w)
  have HM := hid (kmay_any (t.step hb0).hd (hf.step hb0))
  have SX : Hid (Six (w.alloc f.ec) w.heap.size (.slice f.ka f.kn f.kc) (.slice f.ma f.mn f.mc) (.int .i64 f.ln) (.int .i64 f.pr) (.int .i64 f.ac) (.slice f.a f.n f.c)) := six_new w _ _ _ _ _ _ _
  obtain ⟨k0, k1, k2, k3, k4, k5, -, -, -, -, -, -⟩ := SX.out
  have HT := hid t
  have HF := hid hf
  have HB0 := hid hb0
  clear t hf hb0
  go_enter Try.func17, Try.ntmps17
  go_wp2_with fail
  refine HM.out.mono ?_
  rintro q w1 ⟨rfl, hg1⟩
  by_cases hg : GoodM keys e
  · rw [if_pos hg]
    have HG := hid hg
    have B1 := hid (bl_step HB0.out hg1.below)
    have S1 := hid (SX.out.step hg1.below)
    have HA := hid (kat_any (HT.out.step B1.out) (HF.out.step B1.out) hg hn)
    clear hg1 HM k0 k1 k2 k3 k4 k5 SX HB0 hg
    obtain ⟨k0, k1, k2, k3, k4, k5, -, -, -, -, -, -⟩ := S1.out
    go_wp2_with fail
    refine HA.out.mono ?_
    rintro q w2 ⟨v, rfl, hg2, hv⟩
    have B2 := hid (bl_step B1.out hg2.below)
    rcases hv with ⟨rfl, hno⟩ | ⟨j, x, rfl, hjx, hsx⟩
    · have HE := hid (khas_keep (f := fun j => E.eraseIdx j) HT.out B2.out (show hasCM keys E e = 9 by unfold hasCM; rw [if_pos HG.out, if_neg (fun ⟨x, hx, hs⟩ => hno x hx hs)]) (by decide))
      clear hno hg2 HA k0 k1 k2 k3 k4 k5 S1 B1
      go_wp2
      go_ret
      exact HE.out
    · have hjl : j < E.length := (List.getElem?_eq_some_iff.1 hjx).1
      have HJX := hid hjx
      have HSX := hid hsx
      have hj0 : ¬ (j : Int) < 0 := by omega
      have hjn : (j : Int) < (E.length : Int) := by omega
      have T2 := hid (HT.out.step B2.out)
      obtain ⟨la, cap, r4, hrow⟩ := T2.out.lst
      obtain ⟨g, e0, -, -⟩ := hrow.some (by omega)
      subst e0
      have hrw : r < w.heap.size := World.block_lt_of_cell? w _ HT.out.hd.c0
      have h4w : Hid (w.cell? ⟨r, 4, none⟩ = some (.slice (some ⟨g, 0, none⟩) E.length cap)) := by
        show w.cell? ⟨r, 4, none⟩ = _
        rw [← B2.out.cell (p := ⟨r, 4, none⟩) hrw]; exact r4
      obtain ⟨⟨ds, dl, -, dow, dgd⟩, -⟩ := hrow
      have DG := hid dgd
      rcases own_some dow with ⟨h, _⟩ | ⟨g', cur, eg, hBg, hgl, hR, hcap, hmx, hcl, hcx⟩
      · cases h
      have eg' : g = g' := by simpa using eg
      subst eg'
      have f4 := T2.out.f4
      have hcapi : (j : Int) ≤ (cap : Int) := by omega
      have hbd : Below w2.heap.size w2 w2.drew := (Below.refl _ _).drew
      obtain ⟨u, hu⟩ : ∃ u, u = j + 1 := ⟨_, rfl⟩
      have HU := hid hu
      have hs1 : (j : Int) + 1 = (u : Int) := by omega
      have hu1 : (u : Int) ≤ (E.length : Int) := by omega
      have hu2 : (E.length : Int) ≤ (cap : Int) := by omega
      have hu3 : (u : Int) ≤ (cap : Int) := by omega
      have hul : u ≤ E.length := by omega
      have hxl : (ds.flatMap MD.cells).length = E.length * 6 := by rw [mflat_length, dl]; omega
      clear hu
      have hwu : IntKind.i64.wrap (u : Int) = (u : Int) := wrap_small _ (by omega) (by omega)
      have hu0 : (0 : Int) ≤ (u : Int) := by omega
      have hrl2 : r < w2.heap.size := World.block_lt_of_cell? w2 _ r4
      have HSRC : Hid (∀ w', Below w2.heap.size w2 w' → ∀ (k : Nat) (x : Value), ((ds.flatMap MD.cells).take (j * 6))[k]? = some x → w'.cell? ((⟨g, 0, none⟩ : Addr).add k) = some x) := fun w' hb' k x hk => by
        have hkl : k < j * 6 := by have := (List.getElem?_eq_some_iff.1 hk).1; rw [List.length_take] at this; omega
        rw [List.getElem?_take_of_lt hkl, ← hcx, List.getElem?_take_of_lt (by omega)] at hk
        rw [Addr.add_lit, hb'.cell (p := ⟨g, 0 + k, none⟩) hgl, hR.cell, Nat.zero_add]
        exact hk
      have HZ : Hid (∃ ad : Addr, (if cap = u then some (⟨g, 0, none⟩ : Addr) else some ⟨g, u * 6, none⟩) = some ad ∧ ∀ w', Below w2.heap.size w2 w' → ∀ (k : Nat) (x : Value), ((ds.flatMap MD.cells).drop (u * 6))[k]? = some x → w'.cell? (ad.add k) = some x) := by
        by_cases hcu : cap = u
        · refine ⟨⟨g, 0, none⟩, by rw [if_pos hcu], fun w' hb' k x hk => ?_⟩
          have : (ds.flatMap MD.cells).drop (u * 6) = [] := List.drop_eq_nil_of_le (by omega)
          rw [this] at hk
          simp at hk
        · refine ⟨⟨g, u * 6, none⟩, by rw [if_neg hcu], fun w' hb' k x hk => ?_⟩
          rw [List.getElem?_drop] at hk
          have hkl : u * 6 + k < E.length * 6 := by have := (List.getElem?_eq_some_iff.1 hk).1; omega
          rw [← hcx, List.getElem?_take_of_lt hkl] at hk
          rw [Addr.add_lit, hb'.cell (p := ⟨g, u * 6 + k, none⟩) hgl, hR.cell]
          exact hk
      obtain ⟨ad, hadd, hac⟩ := HZ.out
      have HAC := hid hac
      have hl1 : ((ds.flatMap MD.cells).take (j * 6)).length = j * 6 := by rw [List.length_take]; omega
      have hl2 : ((ds.flatMap MD.cells).drop (u * 6)).length = (E.length - u) * 6 := by rw [List.length_drop]; omega
      clear hac hg2 HA k0 k1 k2 k3 k4 k5 S1 B1 dow dgd hR hcx eg hjx hsx
      go_wp2_with fail
      go_region_law (first
        | (refine kstepM (by rfl) _ _ (by rfl) w2.heap.size 0 j (.slice none 0 0) [] ((ds.flatMap MD.cells).take (j * 6)) ⟨g, 0, none⟩ cap (by rfl) (by rfl) (World.ownsRow_nil _ _ _ _) hl1 (HSRC.out _ hbd) (fun u hu => mflat_one ds u (List.mem_of_mem_take hu)) (by omega) (Nat.le_refl _) ?_; intro v1 w3 ho3 hg3 hn3; have hb3 := bl_step hbd (kgrown_none hg3); have p4 : w3.cell? ⟨r, 4, none⟩ = some (.slice (some ⟨g, 0, none⟩) E.length cap) := (hb3.cell (p := ⟨r, 4, none⟩) hrl2).trans r4)
        | (refine kstepM (by rfl) _ _ (by rfl) w2.heap.size (0 + j) (E.length - u) v1 ([] ++ (ds.flatMap MD.cells).take (j * 6)) ((ds.flatMap MD.cells).drop (u * 6)) ad (cap - u) (by rfl) (by rfl) ho3 hl2 (HAC.out _ hb3) (fun u hu => mflat_one ds u (List.mem_of_mem_drop hu)) (by omega) hb3.size ?_; intro v2 w4 ho4 hg4 hn4; have hb4 := hb3.trans (kown_grown hb3.size ho3 hg4); obtain ⟨a2, c2, rfl⟩ := kown6_is ho4; have p5 : w4.cell? ⟨r, 4, none⟩ = some (.slice (some ⟨g, 0, none⟩) E.length cap) := (hb4.cell (p := ⟨r, 4, none⟩) hrl2).trans r4; have p6 : w4.frozen? ⟨r, 4, none⟩ = false := (hb4.frozen (p := ⟨r, 4, none⟩) hrl2).trans f4))
      all_goals
        rw [Nat.zero_add, List.nil_append] at ho4
        rw [Nat.zero_add] at hn4
        have HEND := hid (kdrop_end HT.out HG.out HJX.out HSX.out (bl_step B2.out hb4) h4w.out dl HU.out DG.out hb4 B2.out.size ho4 hn3 hn4)
        clear ho4 hg4 hn4 ho3 hg3 hn3
        go_wp2
        go_ret
        exact HEND.out
  · rw [if_neg hg]
    have HE := hid (khas_keep (f := fun j => E.eraseIdx j) HT.out (bl_step HB0.out hg1.below) (show hasCM keys E e = 6 by unfold hasCM; rw [if_neg hg]) (by decide))
    clear hg1 HM hg
    go_wp2
    go_ret
    exact HE.out
end Go.Proofs.Ytlnkfgdepddmlac
