/- What All of a table by masks does. -/
import Derived.Test.YtlnkfgdepddmlacMFind
namespace Go.Proofs.Ytlnkfgdepddmlac
open Go.RowKit Mth

/-- a list of entries, as it lies -/
def MEnts (w : World) (a : Option Addr) (n : Nat) (E : List TE) : Prop :=
  E.length = n ∧ ∀ (i : Nat) (e : TE), E[i]? = some e → ∃ g, ∃ d : MD, a = some ⟨g, 0, none⟩ ∧ d.at w g (i * 6) ∧ d.good w e ∧ d.ln = 0

theorem MEnts.step {w w' : World} {a : Option Addr} {n : Nat} {E : List TE} (h : MEnts w a n E) (hb : Below w.heap.size w w') : MEnts w' a n E := by
  refine ⟨h.1, fun i e he => ?_⟩
  obtain ⟨g, d, ea, hat, hg, hl⟩ := h.2 i e he
  exact ⟨g, d, ea, hat.step hb, hg.step hb, hl⟩

/-- a list that is being made -/
def MOut (w : World) (base g cap : Nat) (E : List TE) : Prop :=
  ∃ ds : List MD, ds.length = E.length ∧ w.ownsRow base 33 6 (.slice (some ⟨g, 0, none⟩) E.length cap) E.length (ds.flatMap MD.cells) ∧ ∀ (i : Nat) (d : MD) (e : TE), ds[i]? = some d → E[i]? = some e → d.good w e ∧ d.new (g + 1) ∧ d.ln = 0

theorem MD.good.off {d : MD} {w w' : World} {e : TE} {g B : Nat} (h : d.good w e) (f : d.new B) (hg : g < B) (hr : w.grownBy w' (some g)) : d.good w' e :=
  ⟨h.kn0, h.ks3, h.ks.off f.1 hg hr, h.mn0, h.ms3, h.ms.off f.2.1 hg hr, h.pr, h.ac, h.n0, h.xs3, h.xs.off f.2.2 hg hr⟩

theorem MOut.push {w w5 w6 : World} {base g cap : Nat} {E : List TE} {ds : List MD} {d : MD} {e : TE} (hl : ds.length = E.length) (hg : ∀ (i : Nat) (d : MD) (e : TE), ds[i]? = some d → E[i]? = some e → d.good w e ∧ d.new (g + 1) ∧ d.ln = 0) (hB : Below w.heap.size w w5)
    (ho : w6.ownsRow base 33 6 (.slice (some ⟨g, 0, none⟩) (E.length + 1) cap) (E.length + 1) (ds.flatMap MD.cells ++ d.cells)) (hgr : w5.grownBy w6 (some g)) (hd : d.good w5 e) (hn : d.new (g + 1)) (hln : d.ln = 0) : MOut w6 base g cap (E ++ [e]) := by
  have e1 : (E ++ [e]).length = E.length + 1 := by simp
  refine ⟨ds ++ [d], by simp [hl], by rw [e1]; simpa using ho, fun i d' e' hd' he' => ?_⟩
  by_cases hi : i < ds.length
  · rw [List.getElem?_append_left hi] at hd'
    rw [List.getElem?_append_left (by omega)] at he'
    obtain ⟨g1, g2, g3⟩ := hg i d' e' hd' he'
    exact ⟨(g1.step hB).off g2 (Nat.lt_succ_self _) hgr, g2, g3⟩
  · rw [List.getElem?_append_right (Nat.le_of_not_lt hi)] at hd'
    rw [List.getElem?_append_right (by omega)] at he'
    have hi2 : i - ds.length = 0 := by
      have := (List.getElem?_eq_some_iff.1 hd').1
      simp at this
      omega
    rw [hi2] at hd'
    rw [← hl, hi2] at he'
    have ed : d = d' := by simpa using hd'
    have ee : e = e' := by simpa using he'
    subst ed; subst ee
    exact ⟨hd.off hn (Nat.lt_succ_self _) hgr, hn, hln⟩

theorem MOut.ents {w : World} {base g cap : Nat} {E : List TE} (h : MOut w base g cap E) : MEnts w (some ⟨g, 0, none⟩) E.length E := by
  obtain ⟨ds, hl, ho, hg⟩ := h
  refine ⟨rfl, fun i e he => ?_⟩
  have hi : i < E.length := (List.getElem?_eq_some_iff.1 he).1
  have hd : ds[i]? = some (ds[i]'(by omega)) := List.getElem?_eq_getElem _
  refine ⟨g, ds[i]'(by omega), rfl, ?_, (hg i _ e hd he).1, (hg i _ e hd he).2.2⟩
  have key : ∀ j, j < 6 → w.cell? ⟨g, i * 6 + j, none⟩ = (ds[i]'(by omega)).cells[j]? := by
    intro j hj
    rw [ho.cellAt (i * 6 + j) (by omega), Nat.mul_comm i 6]
    exact mflat_at ds i j (by omega) hj
  exact ⟨key 0 (by omega), key 1 (by omega), key 2 (by omega), key 3 (by omega), key 4 (by omega), key 5 (by omega)⟩

theorem wpList_fits6 {ops : Array Oper} {rest : List Oper} {o : Oper} {a : Act} {w : World} {Q : Exit → Act → World → Prop} (hgd : o.guard = none) (s x : Operand)
    (ho : o.op = .call { callee := .builtin .append, args := #[s, x], argTypes := #[28, 28] }) (base g n cap : Nat) (xs news : List Value) (ad : Addr) (c : Nat)
    (hs : a.eval s = .slice (some ⟨g, 0, none⟩) n cap) (hx : a.eval x = .slice (some ad) 1 c) (hown : w.ownsRow base 33 6 (.slice (some ⟨g, 0, none⟩) n cap) n xs) (hl : news.length = 1 * 6) (hn : ∀ j u, news[j]? = some u → w.cell? (ad.add j) = some u) (h1 : ∀ u ∈ news, u.oneCell' = true)
    (hroom : n + 1 ≤ cap) (h : ∀ w', w'.ownsRow base 33 6 (.slice (some ⟨g, 0, none⟩) (n + 1) cap) (n + 1) (xs ++ news) → w.grownBy w' (some g) → wpList Try.prog ops Q rest (a.put o.dst (.slice (some ⟨g, 0, none⟩) (n + 1) cap)) w') : wpList Try.prog ops Q (o :: rest) a w :=
  wpList_plain hgd fun _ hK => by
    obtain ⟨i0, hi, hz0, hz1, hz2⟩ := info_parts Try.infoEntry
    obtain ⟨w', hrun, r1, r2⟩ := run_append_fits (P := Try.prog) w base 28 o.type 33 i0 6 Try.underlying28 hi hz1 g n cap xs hown ad 1 c news hl hn h1 hroom
    unfold Oper.wp execOp
    simp only [ho, resolve, invoke, builtin, Sem.run_bind, Sem.run_pure, Result.andThen_ok, List.map_toArray, List.map_cons, List.map_nil, hs, hx, hrun]
    exact hK _ _ (h w' r1 r2)

def MAllDone (w w' : World) (T : List TE) (r : Ending) : Prop := ∃ a c, r = .returned (.slice a T.length c) ∧ MEnts w' a T.length T ∧ Below w.heap.size w w'

/-- so far as All has come -/
def MAt (w wr : World) (g cap : Nat) (T : List TE) (i : Nat) : Prop := MOut wr w.heap.size g cap (T.take i) ∧ Below w.heap.size w wr

set_option maxHeartbeats 4000000 in
set_option maxRecDepth 20000 in
theorem mall_any {w : World} {B p : Nat} {keys most : Int} {T : List TE} (t : MTab w B p keys most T) (hn : T.length ≤ 100000) :
    Calls Try.prog 35 #[.pointer (some ⟨p, 0, none⟩)] w fun r w' => MAllDone w w' T r := by
  obtain ⟨la, cap, p2, hrow⟩ := t.lst
  obtain ⟨i0, hi, hz0, hz1, hz2⟩ := info_parts Try.infoEntry
  obtain ⟨w1, hrun, r1, r2⟩ := run_make_own (P := Try.prog) w w.heap.size 28 33 i0 NoEntry 6 Try.underlying28 hi hz0 hz1 .i64 .i64 T.length (by rw [hz2]; omega) (by unfold maxLen; omega) (Nat.le_refl _)
  have hb1 : Below w.heap.size w w1 := (Below.refl w.heap.size w).grown r2 (Nat.le_refl _) (by intro k hk; cases hk)
  have HM0 : Hid (MAt w w1 w.heap.size T.length T 0) := ⟨⟨[], rfl, r1, by simp⟩, hb1⟩
  have HR := hid hrow
  have HT := hid t
  have hpl : p < w.heap.size := World.block_lt_of_cell? w _ t.c0
  have q2 := (hb1.cell (p := ⟨p, 2, none⟩) hpl).trans p2
  have hgl := (r1.lt w.heap.size rfl).2
  clear t hrow hi hz0 hz1 hz2 r1 r2
  go_enter Try.func35, Try.ntmps35
  go_wp2_with fail
  go_loopw [3, 17] (fun x q wr => ∃ i : Nat, i ≤ T.length ∧ x = .slice (some ⟨w.heap.size, 0, none⟩) i T.length ∧ q = .int .i64 i ∧ Hid (MAt w wr w.heap.size T.length T i)) (fun _ q _ => T.length - (intOf q).toNat)
  case atStart => exact ⟨0, Nat.zero_le _, rfl, rfl, HM0.out⟩
  case round =>
    obtain ⟨i, hil, rfl, rfl, hat⟩ := hrel
    by_cases hlt : i < T.length
    · obtain ⟨g, d, y, rfl, hy, hd, hgd, -, -⟩ := (HR.out.step hat.out.2).at i hlt
      obtain ⟨c0, c1, c2, c3, c4, c5⟩ := hd
      have hii : (i : Int) < (T.length : Int) := by omega
      have hal : Below wr.heap.size wr (wr.alloc d.ec) := bl_alloc (Below.refl _ _)
      have HCP := hid (mcopied_any (hgd.step hal))
      have SN : Six (wr.alloc d.ec) wr.heap.size (.slice d.ka d.kn d.kc) (.slice d.ma d.mn d.mc) (.int .i64 d.ln) (.int .i64 d.pr) (.int .i64 d.ac) (.slice d.a d.n d.c) := six_new wr _ _ _ _ _ _ _
      obtain ⟨n0, n1, n2, n3, n4, n5, -, -, -, -, -, -⟩ := SN
      have HY := hid hy
      have HAL := hid hal
      clear hgd hy hal
      go_wp2_with fail
      refine HCP.out.mono ?_
      rintro r w3 ⟨f, rfl, hgf, hnf, hlf, hb3⟩
      have HLF := hid hlf
      obtain ⟨ds, dl, dow, dg⟩ := hat.out.1
      have hTl : (T.take i).length = i := by rw [List.length_take]; omega
      rw [hTl] at dow dl
      have DOW := hid dow
      have DG := hid dg
      have hbz := hid (bl_step HAL.out hb3)
      have hsz : w.heap.size < wr.heap.size := (dow.lt w.heap.size rfl).2
      clear HCP hlf dow dg n0 n1 n2 n3 n4 n5 c0 c1 c2 c3 c4 c5
      go_wp2_with (at_builtin; refine wpList_fits6 rfl _ _ rfl w.heap.size w.heap.size i T.length (ds.flatMap MD.cells) f.cells ⟨w3.heap.size, 0, none⟩ 1 rfl rfl ?c0 rfl ?c1 (mcells_one f) hlt ?_)
      case c0 => exact (owns_below DOW.out hbz.out).alloc _
      case c1 => exact rowAt_src (rowAt_alloc w3 _) (by simp [MD.cells])
      intro w5 ho5 hg5
      have HN : Hid (MAt w w5 w.heap.size T.length T (i + 1)) := by
        have hal5 : Below w3.heap.size w3 (w3.alloc (.cells #[.slice f.ka f.kn f.kc, .slice f.ma f.mn f.mc, .int .i64 f.ln, .int .i64 f.pr, .int .i64 f.ac, .slice f.a f.n f.c] 33)) := bl_alloc (Below.refl _ _)
        have e : T.take (i + 1) = T.take i ++ [y] := by rw [List.take_add_one, HY.out]; rfl
        refine ⟨?_, ?_⟩
        · rw [e]
          refine MOut.push (w := wr) (by rw [hTl]; exact dl) DG.out (bl_step hbz.out hal5) (by rw [hTl]; exact ho5) hg5 (hgf.step hal5) (hnf.mono ?_) HLF.out
          have h1 := HAL.out.size
          omega
        · exact (bl_step (bl_step hat.out.2 hbz.out) hal5).grown hg5 (by have := hat.out.2.size; have := hbz.out.size; have := hal5.size; omega) (by intro k hk; cases hk; exact Nat.le_refl _)
      clear ho5 hg5 hgf hnf hb3 hat
      go_wp2
      go_roundw
      case rel => exact ⟨i + 1, by omega, rfl, by go_num, HN.out⟩
      case measure => simp [intOf]; omega
    · have ei : i = T.length := by omega
      subst ei
      have HE : Hid (MAllDone w wr T (.returned (.slice (some ⟨w.heap.size, 0, none⟩) T.length T.length))) := by
        refine ⟨_, _, rfl, ?_, hat.out.2⟩
        have h := hat.out.1.ents
        rwa [List.take_length] at h
      clear hat
      go_wp2
      go_ret
      exact HE.out
end Go.Proofs.Ytlnkfgdepddmlac
