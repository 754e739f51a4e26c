/- What All of the document's own table by beginnings does. -/
import Derived.Test.YtlnkfgdepddmlacRLeast
import Derived.Test.YtlnkfgdepddmlacRAhead
import Derived.Test.YtlnkfgdepddmlacRDrop
import Derived.Test.YtlnkfgdepddmlacLOwn2
import Derived.Test.YtlnkfgdepddmlacRFind2
namespace Go.Proofs.Ytlnkfgdepddmlac
open Go.RowKit Mth

/-- nothing but the list's own block has turned -/
theorem Row.turn {wA w5 : World} {B : Nat} {la : Option Addr} {n cap : Nat} {E : List Ent} (hl : Row wA B la n cap E) (hg : wA.grownBy w5 (Value.slice la n cap).ownBlock) : Turned wA w5 := by
  refine ⟨hg.size, fun k hk => ?_⟩
  rcases hl.own with ⟨_, h⟩ | ⟨g, _, h, _, ka, kn, kc, hc⟩
  · exact .inl (hg.block k hk (fun e => by rw [h] at e; cases e))
  · by_cases e : k = g
    · subst e; exact .inr (.inl ⟨ka, kn, kc, hc⟩)
    · exact .inl (hg.block k hk (fun e' => by rw [h] at e'; exact e (Option.some.inj e')))

/-- an entry more behind a list -/
theorem row_push {wA w5 : World} {B n cap g' cap' : Nat} {la : Option Addr} {E : List Ent} {ds : List ED} {d : ED} {e : Ent} (hr : Row wA B la n cap E) (hlen : ds.length = n) (hgood : ∀ (i : Nat) (d : ED) (e : Ent), ds[i]? = some d → E[i]? = some e → d.good wA e ∧ d.new 0) (hd : d.good wA e) (hn : d.new 0)
    (hg : wA.grownBy w5 (Value.slice la n cap).ownBlock) (ho : w5.ownsRow B 33 6 (.slice (some ⟨g', 0, none⟩) (n + 1) cap') (n + 1) (ds.flatMap ED.cells ++ d.cells)) : Row w5 B (some ⟨g', 0, none⟩) (n + 1) cap' (E ++ [e]) := by
  have T := hr.turn hg
  have key : ∀ (d : ED) (e : Ent), d.good wA e → d.new 0 → d.good w5 e ∧ d.new 0 := by
    rintro d e ⟨g1, g2, g3, g4, g5, g6, g7, g8⟩ ⟨f1, f2⟩
    exact ⟨⟨g1, g2, T.has f1 g3, g4, g5, g6, g7, T.has f2 g8⟩, f1, f2⟩
  have hE : E.length = n := by obtain ⟨ds, _, hE, _⟩ := hr; exact hE
  refine ⟨ds ++ [d], by simp [hlen], by simp [hE], by simpa using ho, fun h => by omega, fun i d' e' hd' he' => ?_⟩
  by_cases hi : i < n
  · rw [List.getElem?_append_left (by omega)] at hd' he'
    obtain ⟨q1, q2⟩ := hgood i d' e' hd' he'
    exact key _ _ q1 q2
  · have hi2 : i < n + 1 := by
      have := (List.getElem?_eq_some_iff.1 hd').1
      simp [hlen] at this
      omega
    have ei : i = n := by omega
    subst ei
    rw [List.getElem?_append_right (by omega), hlen, Nat.sub_self] at hd'
    rw [List.getElem?_append_right (by omega), hE, Nat.sub_self] at he'
    simp only [List.getElem?_cons_zero, Option.some.injEq] at hd' he'
    subst hd'; subst he'
    exact key _ _ hd hn

theorem row_below {w wA w5 : World} {n cap : Nat} {la : Option Addr} {E : List Ent} (hr : Row wA w.heap.size la n cap E) (hb : Below w.heap.size w wA) (hg : wA.grownBy w5 (Value.slice la n cap).ownBlock) : Below w.heap.size w w5 :=
  hb.grown hg hb.size (fun k hk => by
    rcases hr.own with ⟨_, h⟩ | ⟨g, _, h, hB, _⟩
    · rw [h] at hk; cases hk
    · rw [h] at hk; cases hk; exact hB)

theorem Row.step {w w' : World} {B : Nat} {la : Option Addr} {n cap : Nat} {E : List Ent} (h : Row w B la n cap E) (hb : Below w.heap.size w w') : Row w' B la n cap E :=
  h.keep (fun g e h0 => by
    obtain ⟨g2, e2, _, hlt⟩ := h.some h0
    rw [e] at e2
    have : g = g2 := by simpa using e2
    rw [this]; exact hb.block g2 hlt) (fun _ _ _ _ hz => hz.step hb)

/-- an entry of such a list -/
theorem Row.entry {w : World} {B : Nat} {la : Option Addr} {n cap : Nat} {C : Told2} {W : Nat} {L : List (Nat × Nat)} (h : Row w B la n cap (L.map (entOf C W))) {i : Nat} {x : Nat × Nat} (hx : L[i]? = Option.some x) :
    ∃ g ka kc aa an ac, la = Option.some ⟨g, 0, none⟩ ∧ w.cell? ⟨g, i * 6, none⟩ = Option.some (.slice ka 1 kc) ∧ w.cell? ⟨g, i * 6 + 1, none⟩ = Option.some (.slice none 0 0) ∧ w.cell? ⟨g, i * 6 + 2, none⟩ = Option.some (.int .i64 (x.1 : Int)) ∧ w.cell? ⟨g, i * 6 + 3, none⟩ = Option.some (.int .i64 0) ∧ w.cell? ⟨g, i * 6 + 4, none⟩ = Option.some (.int .i64 ((C x.1 x.2).getD (0, [])).1) ∧ w.cell? ⟨g, i * 6 + 5, none⟩ = Option.some (.slice aa an ac) ∧
      Has .u64 w ka 1 [((keyOf2 W x : Nat) : Int)] ∧ (aa = none → an = 0 ∧ ac = 0) ∧ an ≤ 1000 ∧ Has .u64 w aa an ((C x.1 x.2).getD (0, [])).2 := by
  have hE : (L.map (entOf C W)).length = n := by obtain ⟨ds, _, hE, _⟩ := h; exact hE
  have hi : i < n := by have := (List.getElem?_eq_some_iff.1 hx).1; rw [List.length_map] at hE; omega
  obtain ⟨g, d, e, ea, he, ⟨c0, c1, c2, c3, c4, c5⟩, ⟨g1, g2, g3, g4, g5, g6, g7, g8⟩, f1, f2⟩ := h.at i hi
  rw [List.getElem?_map, hx] at he
  simp only [Option.map_some, Option.some.injEq] at he
  subst he
  have hkn : d.kn = 1 := by rw [← g3.1]; rfl
  rw [hkn] at c0 g3
  rw [g4] at c2
  rw [g5] at c4
  exact ⟨g, d.ka, d.kc, d.a, d.n, d.c, ea, c0, c1, c2, c3, c4, c5, g3, g6, g7, g8⟩

theorem ahead_lt2 (W : Nat) (x y : Nat × Nat) : decide (Ahead (keyOf2 W x : Nat) (x.1 : Int) (keyOf2 W y : Nat) (y.1 : Int)) = decide (Lt2 W x y) := by
  rw [decide_eq_decide]
  unfold Ahead Lt2
  omega

def lenV : Value → Nat
  | .slice _ n _ => n
  | _ => 0

/-- the first k are told -/
def AllAt (w wr : World) (C : Told2) (W : Nat) (P : List (Nat × Nat)) (k : Nat) (la : Option Addr) (cap : Nat) : Prop := Row wr w.heap.size la k cap ((P.take k).map (entOf C W)) ∧ Below w.heap.size w wr

theorem allAt_zero (w : World) (C : Told2) (W : Nat) (P : List (Nat × Nat)) : AllAt w w C W P 0 none 0 := ⟨⟨[], rfl, by simp, World.ownsRow_nil _ _ _ _, fun _ => rfl, by simp⟩, Below.refl _ _⟩

theorem allAt_next {w wr w2 w3 w5 : World} {C : Told2} {W : Nat} {P : List (Nat × Nat)} {k : Nat} {la : Option Addr} {cap g' cap' : Nat} {ds : List ED} {d : ED} {y : Nat × Nat} {o : Obj} (h : AllAt w wr C W P k la cap) (hb2 : Below wr.heap.size wr w2) (hb3 : Below w2.heap.size w2 w3) (hlen : ds.length = k) (hgood : ∀ (i : Nat) (d : ED) (e : Ent), ds[i]? = some d → ((P.take k).map (entOf C W))[i]? = some e → d.good wr e ∧ d.new 0) (hy : P[k]? = some y) (hd : d.good w3 (entOf C W y)) (hn : d.new 0)
    (hg : (w3.alloc o).grownBy w5 (Value.slice la k cap).ownBlock) (ho : w5.ownsRow w.heap.size 33 6 (.slice (some ⟨g', 0, none⟩) (k + 1) cap') (k + 1) (ds.flatMap ED.cells ++ d.cells)) : AllAt w w5 C W P (k + 1) (some ⟨g', 0, none⟩) cap' := by
  have hal : Below w3.heap.size w3 (w3.alloc o) := bl_alloc (Below.refl _ _)
  have hbA := bl_step (bl_step hb2 hb3) hal
  have hrA := h.1.step hbA
  refine ⟨?_, row_below hrA (bl_step h.2 hbA) hg⟩
  have e : P.take (k + 1) = P.take k ++ [y] := by rw [List.take_add_one, hy]; rfl
  rw [e, List.map_append]
  exact row_push hrA hlen (fun i d e hd he => ⟨(hgood i d e hd he).1.moved (moved_below hbA), (hgood i d e hd he).2⟩) (hd.moved (moved_below hal)) hn hg ho

theorem take_at {P : List (Nat × Nat)} {k p : Nat} {y : Nat × Nat} (hp : p < k) (h : P[p]? = some y) : (P.take k)[p]? = some y := by rw [List.getElem?_take_of_lt hp]; exact h

set_option maxHeartbeats 8000000 in
set_option maxRecDepth 20000 in
theorem rall_any {w : World} {B S r : Nat} {wd most : Int} {C : Told2} {es : List (Nat × Nat)} (t : Rws w B S r wd most C es) (hp : (pre C (wid wd + 1) 0 0).Perm es) (hl : es.length ≤ 100000) :
    Calls Try.prog 24 #[.pointer (some ⟨r, 0, none⟩)] w fun e w' => AllDone w w' C wd es.length e := by
  have hsort : (pre C (wid wd + 1) 0 0).Pairwise (Lt2 (wid wd)) := pre_sorted C (wid wd) (wid wd + 1) 0 0 (by omega)
  have hPl : (pre C (wid wd + 1) 0 0).length = es.length := hp.length_eq
  have hall : allOf C wd = (pre C (wid wd + 1) 0 0).map (entOf C (wid wd)) := rfl
  generalize pre C (wid wd + 1) 0 0 = P at *
  have HALL := hid hall
  have HSORT := hid hsort
  have HP := hid hp
  have HT := hid t
  clear hall hsort hp t
  obtain ⟨W, hW⟩ : ∃ W, W = wid wd := ⟨_, rfl⟩
  have HW := hid hW
  rw [← hW] at HALL HSORT
  clear hW
  go_enter Try.func24, Try.ntmps24
  go_wp2_with fail
  go_loopw [3] (fun x wr => ∃ (k : Nat) (la : Option Addr) (cap : Nat), k ≤ es.length ∧ x = .slice la k cap ∧ Hid (AllAt w wr C W P k la cap)) (fun x _ => es.length - lenV x)
  case atStart => exact ⟨0, none, 0, Nat.zero_le _, rfl, allAt_zero _ _ _ _⟩
  case round =>
    obtain ⟨k, la, cap, hk, rfl, hat⟩ := hrel
    generalize wr = wo at *
    have TR := hid (HT.out.step hat.out.2)
    obtain ⟨lb, capb, r4, hrow, -⟩ := TR.out.lst
    rw [← HW.out] at hrow
    by_cases hlt : k < es.length
    · have hki : (k : Int) < (es.length : Int) := by omega
      obtain ⟨g, e0, -, -⟩ := hrow.some (by omega)
      subst e0
      have HROW := hid hrow
      clear hrow
      go_wp2_with fail
      go_loopw [4, 5] (fun x q wi => ∃ (i : Nat) (b : Int), i ≤ es.length ∧ q = .int .i64 i ∧ x = .int .i64 b ∧ Hid (LeastOf es W (Behind W P k) i b) ∧ Hid (Below wo.heap.size wo wi)) (fun _ q _ => es.length - (intOf q).toNat)
      case atStart => exact ⟨0, -1, Nat.zero_le _, rfl, rfl, least_zero _ _ _, Below.refl _ _⟩
      case round =>
        obtain ⟨i, b, hi, rfl, rfl, hleast, hB⟩ := hrel
        generalize wr = wi at *
        have RR := hid (HROW.out.step hB.out)
        have r4i := (hB.out.cell (p := ⟨r, 4, none⟩) (show r < wo.heap.size from World.block_lt_of_cell? wo _ r4)).trans r4
        by_cases hlt2 : i < es.length
        · have hx : es[i]? = some (es[i]'hlt2) := List.getElem?_eq_getElem _
          generalize es[i]'hlt2 = x at *
          obtain ⟨g', ka, kc, ea, en, ec, eg, c0, c1, c2, c3, c4, c5, hka, -⟩ := RR.out.entry hx
          have eg' : g = g' := by simpa using eg
          subst eg'
          have HX := hid hx
          have HKA := hid hka
          have hii : (i : Int) < (es.length : Int) := by omega
          have hgl : g < wi.heap.size := World.block_lt_of_cell? wi _ c0
          have hrl : r < wi.heap.size := World.block_lt_of_cell? wi _ r4i
          clear hx hka eg
          rcases Nat.eq_zero_or_pos k with h0 | h0
          case' inl =>
            have hbe : Behind W P k x := fun y hy => by omega
            have HBE := hid hbe
            clear hbe
            have hkd : decide ((0 : Int) < (k : Int)) = false := decide_eq_false (by omega)
            clear hki
            go_wp2_with fail
            go_quiet (fail)
            have HBJ := hid (drew_below wi nq)
            generalize wi.drewN nq = wj at *
            clear hkd
          case' inr =>
            obtain ⟨p, hkp⟩ : ∃ p, k = p + 1 := ⟨k - 1, by omega⟩
            have hPp : P[p]? = some (P[p]'(by omega)) := List.getElem?_eq_getElem _
            generalize P[p]'(by omega) = y at *
            have RO := hid (hat.out.1.step hB.out)
            obtain ⟨go, kao, kco, eao, eno, eco, ego, o0, o1, o2, o3, o4, o5, hko, -⟩ := RO.out.entry (take_at (by omega) hPp)
            subst ego
            have hgo : go < wi.heap.size := World.block_lt_of_cell? wi _ o0
            have HF := fun q os => ahead_any (w := Sort.grow (wi.drewN q) os) (ca := kco) (cb := kc) (aa := eao) (ab := ea) (na := eno) (nb := en) (da := eco) (db := ec) (la := (y.1 : Int)) (lb := (x.1 : Int)) (ra := ((C y.1 y.2).getD (0, [])).1) (rb := ((C x.1 x.2).getD (0, [])).1) (hko.step (grow_below wi q os)) (HKA.out.step (grow_below wi q os))
            have HBEH : Hid (Lt2 W y x → Behind W P k x) := fun h z _ hz => by
              rw [show k - 1 = p from by omega, hPp] at hz
              cases hz; exact h
            have HNBE : Hid (¬ Lt2 W y x → ¬ Behind W P k x) := fun h hb => h (hb y (by omega) (by rw [show k - 1 = p from by omega]; exact hPp))
            have hk1 : (k : Int) - 1 = (p : Int) := by omega
            have hpk : (p : Int) < (k : Int) := by omega
            have hp0 : (0 : Int) ≤ (p : Int) := by omega
            have hwp : IntKind.i64.wrap (p : Int) = (p : Int) := wrap_small _ (by omega) (by omega)
            have hkd : decide ((0 : Int) < (k : Int)) = true := decide_eq_true (by omega)
            have R4 := cell_grown (a := ⟨r, 4, none⟩) hrl r4i
            have E0 := cell_grown (a := ⟨g, i * 6, none⟩) hgl c0
            have E1 := cell_grown (a := ⟨g, i * 6 + 1, none⟩) hgl c1
            have E2 := cell_grown (a := ⟨g, i * 6 + 2, none⟩) hgl c2
            have E3 := cell_grown (a := ⟨g, i * 6 + 3, none⟩) hgl c3
            have E4 := cell_grown (a := ⟨g, i * 6 + 4, none⟩) hgl c4
            have E5 := cell_grown (a := ⟨g, i * 6 + 5, none⟩) hgl c5
            have O0 := cell_grown (a := ⟨go, p * 6, none⟩) hgo o0
            have O1 := cell_grown (a := ⟨go, p * 6 + 1, none⟩) hgo o1
            have O2 := cell_grown (a := ⟨go, p * 6 + 2, none⟩) hgo o2
            have O3 := cell_grown (a := ⟨go, p * 6 + 3, none⟩) hgo o3
            have O4 := cell_grown (a := ⟨go, p * 6 + 4, none⟩) hgo o4
            have O5 := cell_grown (a := ⟨go, p * 6 + 5, none⟩) hgo o5
            rw [ahead_lt2 W y x] at HF
            by_cases hbe : Lt2 W y x
            rotate_left
            · rw [decide_eq_false hbe] at HF
              have HF := hid HF
              have HNX := hid (least_skip hleast.out HX.out (HNBE.out hbe))
              clear HBEH HNBE hbe hkp hPp hko hleast HX HKA
              go_wp2_with fail
              refine wp_region_quiet_grown (by kernel_rfl) (by kernel_rfl) ?_
              repeat (go_big_quiet_step ((go_at_call 50; exact Calls.grown_of (HF.out _ _))))
              refine wpQuiet_nil ?_
              intro _ hw'
              obtain ⟨⟨nq, osq⟩, hw''⟩ := hw'
              subst hw''
              have HB2 := hid (bl_step hB.out (grow_below wi nq osq))
              clear HF
              go_wp2
              go_roundw
              case rel => exact ⟨i + 1, _, by omega, by go_num, rfl, HNX.out, HB2.out⟩
              case measure => simp [intOf]; omega
            rw [decide_eq_true hbe] at HF
            have HF := hid HF
            have HBE := hid (HBEH.out hbe)
            clear HBEH HNBE hbe hkp hPp hko
            go_wp2_with fail
            refine wp_region_quiet_grown (by kernel_rfl) (by kernel_rfl) ?_
            repeat (go_big_quiet_step ((go_at_call 50; exact Calls.grown_of (HF.out _ _))))
            refine wpQuiet_nil ?_
            intro _ hw'
            obtain ⟨⟨nq, osq⟩, hw''⟩ := hw'
            subst hw''
            have HBJ := hid (grow_below wi nq osq)
            clear HF R4 E0 E1 E2 E3 E4 E5 O0 O1 O2 O3 O4 O5 o0 o1 o2 o3 o4 o5 hk1 hpk hp0 hwp hkd hgo
            generalize Sort.grow (wi.drewN nq) osq = wj at *
          all_goals
            have hBj := hid (bl_step hB.out HBJ.out)
            have RJ := hid (RR.out.step HBJ.out)
            have r4j := (HBJ.out.cell (p := ⟨r, 4, none⟩) hrl).trans r4i
            have d0 := (HBJ.out.cell (p := ⟨g, i * 6, none⟩) hgl).trans c0
            have d1 := (HBJ.out.cell (p := ⟨g, i * 6 + 1, none⟩) hgl).trans c1
            have d2 := (HBJ.out.cell (p := ⟨g, i * 6 + 2, none⟩) hgl).trans c2
            have d3 := (HBJ.out.cell (p := ⟨g, i * 6 + 3, none⟩) hgl).trans c3
            have d4 := (HBJ.out.cell (p := ⟨g, i * 6 + 4, none⟩) hgl).trans c4
            have d5 := (HBJ.out.cell (p := ⟨g, i * 6 + 5, none⟩) hgl).trans c5
            have KJ := hid (HKA.out.step HBJ.out)
            have hgj : g < wj.heap.size := World.block_lt_of_cell? wj _ d0
            have hrj : r < wj.heap.size := World.block_lt_of_cell? wj _ r4j
            clear c0 c1 c2 c3 c4 c5 r4i hgl hrl HKA RR h0
            have HL2 := hid hleast.out
            rcases HL2.out with ⟨rfl, -⟩ | ⟨t', z, rfl, ht', hz, -, -⟩
            · have HNX := hid (least_first hleast.out HX.out HBE.out)
              clear hleast HL2 HX HBE RJ
              go_wp2_with fail
              go_quiet (fail)
              have HB2 := hid (bl_step hBj.out (drew_below wj nq))
              go_wp2
              go_roundw
              case rel => exact ⟨i + 1, _, by omega, by go_num, rfl, HNX.out, HB2.out⟩
              case measure => simp [intOf]; omega
            · obtain ⟨g2, kz, kcz, ez, nz, cz, egz, z0, z1, z2, z3, z4, z5, hkz, -⟩ := RJ.out.entry hz
              have egz' : g = g2 := by simpa using egz
              subst egz'
              have HF := fun q os => ahead_any (w := Sort.grow (wj.drewN q) os) (ca := kc) (cb := kcz) (aa := ea) (ab := ez) (na := en) (nb := nz) (da := ec) (db := cz) (la := (x.1 : Int)) (lb := (z.1 : Int)) (ra := ((C x.1 x.2).getD (0, [])).1) (rb := ((C z.1 z.2).getD (0, [])).1) (KJ.out.step (grow_below wj q os)) (hkz.step (grow_below wj q os))
              have htd : decide ((t' : Int) < 0) = false := decide_eq_false (by omega)
              have hti : (t' : Int) < (es.length : Int) := by omega
              have R4 := cell_grown (a := ⟨r, 4, none⟩) hrj r4j
              have E0 := cell_grown (a := ⟨g, i * 6, none⟩) hgj d0
              have E1 := cell_grown (a := ⟨g, i * 6 + 1, none⟩) hgj d1
              have E2 := cell_grown (a := ⟨g, i * 6 + 2, none⟩) hgj d2
              have E3 := cell_grown (a := ⟨g, i * 6 + 3, none⟩) hgj d3
              have E4 := cell_grown (a := ⟨g, i * 6 + 4, none⟩) hgj d4
              have E5 := cell_grown (a := ⟨g, i * 6 + 5, none⟩) hgj d5
              have O0 := cell_grown (a := ⟨g, t' * 6, none⟩) hgj z0
              have O1 := cell_grown (a := ⟨g, t' * 6 + 1, none⟩) hgj z1
              have O2 := cell_grown (a := ⟨g, t' * 6 + 2, none⟩) hgj z2
              have O3 := cell_grown (a := ⟨g, t' * 6 + 3, none⟩) hgj z3
              have O4 := cell_grown (a := ⟨g, t' * 6 + 4, none⟩) hgj z4
              have O5 := cell_grown (a := ⟨g, t' * 6 + 5, none⟩) hgj z5
              rw [ahead_lt2 W x z] at HF
              by_cases hlz : Lt2 W x z
              · rw [decide_eq_true hlz] at HF
                have HF := hid HF
                have HNX := hid (least_more hleast.out hz HX.out HBE.out hlz)
                clear hlz hleast HL2 HX HBE RJ KJ hz hkz egz
                go_wp2_with fail
                refine wp_region_quiet_grown (by kernel_rfl) (by kernel_rfl) ?_
                repeat (go_big_quiet_step ((go_at_call 50; exact Calls.grown_of (HF.out _ _))))
                refine wpQuiet_nil ?_
                intro _ hw'
                obtain ⟨⟨nq, osq⟩, hw''⟩ := hw'
                subst hw''
                have HB2 := hid (bl_step hBj.out (grow_below wj nq osq))
                clear HF
                go_wp2
                go_roundw
                case rel => exact ⟨i + 1, _, by omega, by go_num, rfl, HNX.out, HB2.out⟩
                case measure => simp [intOf]; omega
              · rw [decide_eq_false hlz] at HF
                have HF := hid HF
                have HNX := hid (least_less hleast.out hz HX.out hlz)
                clear hlz hleast HL2 HX HBE RJ KJ hz hkz egz
                go_wp2_with fail
                refine wp_region_quiet_grown (by kernel_rfl) (by kernel_rfl) ?_
                repeat (go_big_quiet_step ((go_at_call 50; exact Calls.grown_of (HF.out _ _))))
                refine wpQuiet_nil ?_
                intro _ hw'
                obtain ⟨⟨nq, osq⟩, hw''⟩ := hw'
                subst hw''
                have HB2 := hid (bl_step hBj.out (grow_below wj nq osq))
                clear HF
                go_wp2
                go_roundw
                case rel => exact ⟨i + 1, _, by omega, by go_num, rfl, HNX.out, HB2.out⟩
                case measure => simp [intOf]; omega
        · have ei : i = es.length := by omega
          subst ei
          obtain ⟨t', rfl, ht'⟩ := least_end HSORT.out HP.out.symm (by omega) hleast.out
          have hPk : P[k]? = some (P[k]'(by omega)) := List.getElem?_eq_getElem _
          generalize P[k]'(by omega) = y at *
          rw [hPk] at ht'
          have hti : t' < es.length := (List.getElem?_eq_some_iff.1 ht').1
          obtain ⟨g', ka, kc, ea, en, ec, eg, c0, c1, c2, c3, c4, c5, hka, hen, hel, heh⟩ := RR.out.entry ht'
          have eg' : g = g' := by simpa using eg
          subst eg'
          have htt : (t' : Int) < (es.length : Int) := by omega
          have hkan : ka = none → (1 : Nat) = 0 ∧ kc = 0 := fun e => by
            obtain ⟨b, off, e2, _⟩ := hka.some (by omega)
            rw [e] at e2; cases e2
          have HOWN := hid (own_nil (ln := (y.1 : Int)) (pr := 0) (ac := ((C y.1 y.2).getD (0, [])).1) hkan hka (by omega) (by omega) hen heh hel)
          have HPK := hid hPk
          have ROWO := hid (hat.out.1.step hB.out)
          obtain ⟨ds, dl, -, dow, -, dgood⟩ := hat.out.1
          have DOW := hid dow
          have DG := hid dgood
          clear hka hen heh hkan hleast ht' RR hPk eg dow dgood
          go_wp2_with fail
          refine HOWN.out.mono ?_
          rintro e w3 ⟨ak, ck, oa, oc, rfl, lk, lo, hb3⟩
          obtain ⟨i0, hI, hz0, hz1, hz2⟩ := info_parts Try.infoEntry
          clear HOWN c0 c1 c2 c3 c4 c5 r4i
          go_wp2_with (at_builtin; refine wpList_append_own _ rfl _ _ 28 rfl w.heap.size 33 i0 NoEntry 6 96 Try.underlying28 hI hz0 hz1 hz2 rfl (by decide) _ k (ds.flatMap ED.cells) rfl ?c0 ⟨w3.heap.size, 0, none⟩ 1 1 (ED.cells ⟨ak, 1, ck, (y.1 : Int), ((C y.1 y.2).getD (0, [])).1, oa, en, oc⟩) rfl rfl ?c1 ?c2 ?c3 ?c4 ?c5 ?_)
          case c0 => exact (owns_below DOW.out (bl_step hB.out hb3)).alloc _
          case c1 => exact six_cells w3 ⟨ak, 1, ck, (y.1 : Int), ((C y.1 y.2).getD (0, [])).1, oa, en, oc⟩ 33
          case c2 => exact six_one _
          case c3 => unfold maxLen; omega
          case c4 => omega
          case c5 => have := hat.out.2.size; have := hB.out.size; have := hb3.size; simp; omega
          intro v5 w6 ho5 hg5 _
          obtain ⟨a5, c5, rfl⟩ := own6_is ho5
          have HN : Hid (AllAt w w6 C W P (k + 1) a5 c5) := by
            rcases ho5.2 with ⟨_, e⟩ | ⟨g5, c5', cur, e, _⟩
            · omega
            · simp only [Value.slice.injEq, true_and] at e
              obtain ⟨rfl, rfl⟩ := e
              have hks : [((keyOf2 W y : Nat) : Int)] = (entOf C W y).ks := rfl
              refine allAt_next (y := y) hat.out hB.out hb3 dl DG.out HPK.out ?_ ?_ hg5 ho5
              · exact ⟨fun e => absurd (lk.1 e).1 (by omega), show (1 : Nat) ≤ 1000 by omega, lk.2.2.1, rfl, rfl, lo.1, hel, lo.2.2.1⟩
              · exact ⟨lk.2.2.2.mono (Nat.zero_le _), lo.2.2.2.mono (Nat.zero_le _)⟩
          clear ho5 hg5 lk lo hb3 hat hB ROWO DOW DG
          go_wp2
          go_roundw
          case rel => exact ⟨k + 1, a5, c5, by omega, rfl, HN.out⟩
          case measure => simp [lenV]; omega
    · have ek : k = es.length := by omega
      subst ek
      have HEND : Hid (AllDone w wo C wd es.length (.returned (.slice la es.length cap))) := by
        refine ⟨la, cap, rfl, ?_, hat.out.2⟩
        have h := hat.out.1.ents
        rw [HALL.out]
        rwa [List.take_of_length_le (by omega)] at h
      clear hat TR hrow
      go_wp2
      go_ret
      exact HEND.out
end Go.Proofs.Ytlnkfgdepddmlac
