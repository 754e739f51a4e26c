/- What All of the document's own table by masks does. -/
import Derived.Test.YtlnkfgdepddmlacKRows
import Derived.Test.YtlnkfgdepddmlacKLeast
import Derived.Test.YtlnkfgdepddmlacMAll
namespace Go.Proofs.Ytlnkfgdepddmlac
open Go.RowKit Mth

theorem MRow.entry {w : World} {B : Nat} {la : Option Addr} {n cap : Nat} {T : List TE} (h : MRow w B la n cap T) {i : Nat} {x : TE} (hx : T[i]? = Option.some x) : ∃ g, ∃ d : MD, la = Option.some ⟨g, 0, none⟩ ∧ d.at w g (i * 6) ∧ d.good w x ∧ d.new 0 ∧ d.ln = 0 := by
  have hi : i < n := by have := (List.getElem?_eq_some_iff.1 hx).1; have := h.len; omega
  obtain ⟨g, d, y, ea, hy, hat, hg, hn, hl⟩ := h.at i hi
  have : x = y := by rw [hx] at hy; exact Option.some.inj hy
  subst this
  exact ⟨g, d, ea, hat, hg, hn, hl⟩

theorem MRow.ents {w : World} {B : Nat} {la : Option Addr} {n cap : Nat} {T : List TE} (h : MRow w B la n cap T) : MEnts w la n T := by
  refine ⟨h.len, fun i e he => ?_⟩
  obtain ⟨g, d, ea, hat, hg, _, hl⟩ := h.entry he
  exact ⟨g, d, ea, hat, hg, hl⟩

def klenV : Value → Nat
  | .slice _ n _ => n
  | _ => 0

def KAllDone (w w' : World) (P : List TE) (n : Nat) (e : Ending) : Prop := ∃ a c, e = .returned (.slice a n c) ∧ MEnts w' a n P ∧ Below w.heap.size w w'

/-- the first k are told -/
def KAllAt (w wr : World) (P : List TE) (k : Nat) (la : Option Addr) (cap : Nat) : Prop := MRow wr w.heap.size la k cap (P.take k) ∧ Below w.heap.size w wr

theorem kallAt_zero (w : World) (P : List TE) : KAllAt w w P 0 none 0 := ⟨by rw [List.take_zero]; exact mrow_nil _ _, Below.refl _ _⟩

/-- numbers stay where a list of entries has grown -/
theorem mhas_grown {wA w6 : World} {la : Option Addr} {n cap : Nat} (hg : wA.grownBy w6 (Value.slice la n cap).ownBlock) (hh : ∀ ad, la = some ad → ∃ a m c, wA.cell? ⟨ad.block, 0, none⟩ = some (.slice a m c)) {a : Option Addr} {m : Nat} {zs : List Int} (f : From 0 a m) (h : Has .u64 wA a m zs) : Has .u64 w6 a m zs := by
  refine ⟨h.1, h.2.1, ?_⟩
  by_cases h0 : 0 < m
  · obtain ⟨b, off, rfl, hlt, hc⟩ := h.some h0
    obtain ⟨b', off', e, _, hz⟩ := f h0
    simp only [Option.some.injEq, Addr.mk.injEq, and_true] at e
    obtain ⟨rfl, rfl⟩ := e
    subst hz
    have h00 := hc 0 h0
    rw [Nat.zero_add] at h00
    have hbg : some b ≠ (Value.slice la n cap).ownBlock := fun e => by
      cases la with
      | none => cases e
      | some ad =>
        obtain ⟨a', m', c', hc'⟩ := hh ad rfl
        have : b = ad.block := by simpa [Value.ownBlock] using e
        rw [← this, h00] at hc'
        cases hc'
    exact .inr ⟨b, 0, rfl, Nat.lt_of_lt_of_le hlt hg.size, fun i hi => (World.cell?_of_block (w := wA) (w' := w6) (a := ⟨b, 0 + i, none⟩) (hg.block b hlt hbg)).trans (hc i hi)⟩
  · exact .inl (List.eq_nil_of_length_eq_zero (by have := h.1; omega))

theorem MRow.at0 {w : World} {B : Nat} {la : Option Addr} {n cap : Nat} {T : List TE} (h : MRow w B la n cap T) : ∀ ad, la = Option.some ad → ad = ⟨ad.block, 0, none⟩ := fun ad e => by
  obtain ⟨⟨ds, -, -, ho', -⟩, -⟩ := h
  rcases ho'.2 with ⟨e1, -⟩ | ⟨g', _, _, e1, -⟩
  · rw [e] at e1; simp at e1
  · rw [e] at e1; simp only [Value.slice.injEq, Option.some.injEq] at e1; rw [e1.1]

/-- an entry more behind a list -/
theorem mrow_push {wA w6 : World} {B n cap g cap' : Nat} {la : Option Addr} {T : List TE} {ds : List MD} {d : MD} {e : TE} (hr : MRow wA B la n cap T) (hlen : ds.length = n) (hgood : ∀ (i : Nat) (d : MD) (e : TE), ds[i]? = some d → T[i]? = some e → d.good wA e ∧ d.new 0 ∧ d.ln = 0) (hd : d.good wA e) (hn : d.new 0) (hln : d.ln = 0)
    (hg : wA.grownBy w6 (Value.slice la n cap).ownBlock) (ho : w6.ownsRow B 33 6 (.slice (some ⟨g, 0, none⟩) (n + 1) cap') (n + 1) (ds.flatMap MD.cells ++ d.cells)) : MRow w6 B (some ⟨g, 0, none⟩) (n + 1) cap' (T ++ [e]) := by
  have hT := hr.len
  have hh : ∀ ad, la = some ad → ∃ a m c, wA.cell? ⟨ad.block, 0, none⟩ = some (.slice a m c) := fun ad e => hr.2 ad.block (by rw [e, ← hr.at0 ad e])
  have ho' : w6.ownsRow B 33 6 (.slice (some ⟨g, 0, none⟩) (n + 1) cap') (n + 1) ((ds ++ [d]).flatMap MD.cells) := by simpa using ho
  refine ⟨⟨ds ++ [d], by simp [hlen], by simp [hT], ho', fun i d' e' hd' he' => ?_⟩, fun g' eg => ?_⟩
  · have key : d'.good wA e' ∧ d'.new 0 ∧ d'.ln = 0 := by
      by_cases hi : i < n
      · rw [List.getElem?_append_left (by omega)] at hd' he'
        exact hgood i d' e' hd' he'
      · have hi2 : i < n + 1 := by have := (List.getElem?_eq_some_iff.1 hd').1; simp [hlen] at this; omega
        have ei : i = n := by omega
        subst ei
        rw [List.getElem?_append_right (by omega), hlen, Nat.sub_self] at hd'
        rw [List.getElem?_append_right (by omega), hT, Nat.sub_self] at he'
        simp only [List.getElem?_cons_zero, Option.some.injEq] at hd' he'
        subst hd'; subst he'
        exact ⟨hd, hn, hln⟩
    exact ⟨key.1.keep key.2.1 (fun a m zs f h => mhas_grown hg hh f h), key.2⟩
  · have e1 : g = g' := by simpa using eg
    subst e1
    have h0 : w6.cell? ⟨g, 0, none⟩ = ((ds ++ [d]).flatMap MD.cells)[0]? := by rw [ho'.cellAt 0 (by omega)]
    have h1 := mflat_at (ds ++ [d]) 0 0 (by simp) (by omega)
    simp only [Nat.mul_zero, Nat.add_zero] at h1
    rw [h1] at h0
    exact ⟨_, _, _, h0⟩

theorem kallAt_next {w wr w3 w6 : World} {P : List TE} {k : Nat} {la : Option Addr} {cap g cap' : Nat} {ds : List MD} {d : MD} {y : TE} {o : Obj} (h : KAllAt w wr P k la cap) (hb : Below wr.heap.size wr w3) (hlen : ds.length = k) (hgood : ∀ (i : Nat) (d : MD) (e : TE), ds[i]? = some d → (P.take k)[i]? = some e → d.good wr e ∧ d.new 0 ∧ d.ln = 0) (hy : P[k]? = some y) (hd : d.good w3 y) (hn : d.new 0) (hln : d.ln = 0)
    (hg : (w3.alloc o).grownBy w6 (Value.slice la k cap).ownBlock) (ho : w6.ownsRow w.heap.size 33 6 (.slice (some ⟨g, 0, none⟩) (k + 1) cap') (k + 1) (ds.flatMap MD.cells ++ d.cells)) : KAllAt w w6 P (k + 1) (some ⟨g, 0, none⟩) cap' := by
  have hal : Below w3.heap.size w3 (w3.alloc o) := bl_alloc (Below.refl _ _)
  have hbA := bl_step hb hal
  have hrA := h.1.step hbA
  refine ⟨?_, (bl_step h.2 hbA).grown hg (by have := h.2.size; have := hbA.size; omega) (fun j hj => ?_)⟩
  · have e : P.take (k + 1) = P.take k ++ [y] := by rw [List.take_add_one, hy]; rfl
    rw [e]
    exact mrow_push hrA hlen (fun i d e hd he => ⟨(hgood i d e hd he).1.step hbA, (hgood i d e hd he).2⟩) (hd.step hal) hn hln hg ho
  · cases la with
    | none => cases hj
    | some ad =>
      have : ad.block = j := by simpa [Value.ownBlock] using hj
      rw [← this]
      exact (hrA.lt ad.block (by rw [← hrA.at0 ad rfl])).1

theorem mtake_at {P : List TE} {k p : Nat} {y : TE} (hp : p < k) (h : P[p]? = some y) : (P.take k)[p]? = some y := by rw [List.getElem?_take_of_lt hp]; exact h

set_option maxHeartbeats 8000000 in
set_option maxRecDepth 20000 in
theorem kall_any {w : World} {B r : Nat} {keys most : Int} {es P : List TE} (t : KRws w B r keys most es) (hsort : SortedM P) (hp : P.Perm es) (hl : es.length ≤ 100000) :
    Calls Try.prog 24 #[.pointer (some ⟨r, 0, none⟩)] w fun e w' => KAllDone w w' P es.length e := by
  have hPl : P.length = es.length := hp.length_eq
  have HSORT := hid hsort
  have HP := hid hp
  have HT := hid t
  have HLE : Hid (∀ x ∈ es, ∀ z ∈ es, z.ks.length = x.ks.length ∧ z.ms.length = x.ms.length) := fun x hx z hz => by
    have := (t.good x hx).1; have := (t.good x hx).2.1; have := (t.good z hz).1; have := (t.good z hz).2.1
    omega
  clear hsort hp t
  go_enter Try.func24, Try.ntmps24
  go_wp2_with fail
  go_loopw [3] (fun x wr => ∃ (k : Nat) (la : Option Addr) (cap : Nat), k ≤ es.length ∧ x = .slice la k cap ∧ Hid (KAllAt w wr P k la cap)) (fun x _ => es.length - klenV x)
  case atStart => exact ⟨0, none, 0, Nat.zero_le _, rfl, kallAt_zero _ _⟩
  case round =>
    obtain ⟨k, la, cap, hk, rfl, hat⟩ := hrel
    generalize wr = wo at *
    have TR := hid (HT.out.step hat.out.2)
    obtain ⟨lb, capb, r4, hrow⟩ := TR.out.lst
    by_cases hlt : k < es.length
    · have hki : (k : Int) < (es.length : Int) := by omega
      obtain ⟨g, e0, -, -⟩ := hrow.some (by omega)
      subst e0
      have HROW := hid hrow
      clear hrow
      go_wp2_with fail
      go_loopw [4, 5] (fun x q wi => ∃ (i : Nat) (b : Int), i ≤ es.length ∧ q = .int .i64 i ∧ x = .int .i64 b ∧ Hid (LeastM es (BehindM P k) i b) ∧ Hid (Below wo.heap.size wo wi)) (fun _ q _ => es.length - (intOf q).toNat)
      case atStart => exact ⟨0, -1, Nat.zero_le _, rfl, rfl, mleast_zero _ _, Below.refl _ _⟩
      case round =>
        obtain ⟨i, b, hi, rfl, rfl, hleast, hB⟩ := hrel
        generalize wr = wi at *
        have RR := hid (HROW.out.step hB.out)
        have r4i := (hB.out.cell (p := ⟨r, 4, none⟩) (show r < wo.heap.size from World.block_lt_of_cell? wo _ r4)).trans r4
        by_cases hlt2 : i < es.length
        · have hx : es[i]? = some (es[i]'hlt2) := List.getElem?_eq_getElem _
          generalize es[i]'hlt2 = x at *
          obtain ⟨g', d, eg, ⟨c0, c1, c2, c3, c4, c5⟩, hgd, -, hdl⟩ := RR.out.entry hx
          have eg' : g = g' := by simpa using eg
          subst eg'
          have HX := hid hx
          have HKA := hid hgd
          have HDL := hid hdl
          have HXM := hid (List.mem_of_getElem? hx)
          have hii : (i : Int) < (es.length : Int) := by omega
          have hgl : g < wi.heap.size := World.block_lt_of_cell? wi _ c0
          have hrl : r < wi.heap.size := World.block_lt_of_cell? wi _ r4i
          clear hx hgd eg hdl
          rcases Nat.eq_zero_or_pos k with h0 | h0
          case' inl =>
            have hbe : BehindM P k x := fun y hy => by omega
            have HBE := hid hbe
            clear hbe
            have hkd : decide ((0 : Int) < (k : Int)) = false := decide_eq_false (by omega)
            clear hki
            go_wp2_with fail
            go_quiet (fail)
            have HBJ := hid (below_drewN (Below.refl wi.heap.size wi) nq)
            generalize wi.drewN nq = wj at *
            clear hkd
          case' inr =>
            obtain ⟨p, hkp⟩ : ∃ p, k = p + 1 := ⟨k - 1, by omega⟩
            have hPp : P[p]? = some (P[p]'(by omega)) := List.getElem?_eq_getElem _
            generalize P[p]'(by omega) = y at *
            have RO := hid (hat.out.1.step hB.out)
            have hyP : y ∈ es := HP.out.mem_iff.1 (List.mem_of_getElem? hPp)
            obtain ⟨go, d2, ego, ⟨o0, o1, o2, o3, o4, o5⟩, hko, -, hdl2⟩ := RO.out.entry (mtake_at (by omega) hPp)
            subst ego
            have hgo : go < wi.heap.size := World.block_lt_of_cell? wi _ o0
            have HF := fun q os => (kahead_any (w := Sort.grow (wi.drewN q) os) (d := d2) (f := d) (hko.step (below_grow wi q os)) (HKA.out.step (below_grow wi q os)) (by rw [← hko.ks.1, ← HKA.out.ks.1]; exact (HLE.out y hyP x HXM.out).1) (by rw [← hko.ms.1, ← HKA.out.ms.1]; exact (HLE.out y hyP x HXM.out).2) (by rw [HDL.out, hdl2])).mono (fun _ _ h => ask_dec h)
            have HBEH : Hid (cmpE y x < 0 → BehindM P k x) := fun h z _ hz => by
              rw [show k - 1 = p from by omega, hPp] at hz
              cases hz; exact h
            have HNBE : Hid (¬ cmpE y x < 0 → ¬ BehindM P k x) := fun h hb => h (hb y (by omega) (by rw [show k - 1 = p from by omega]; exact hPp))
            have hk1 : (k : Int) - 1 = (p : Int) := by omega
            have hpk : (p : Int) < (k : Int) := by omega
            have hp0 : (0 : Int) ≤ (p : Int) := by omega
            have hwp : IntKind.i64.wrap (p : Int) = (p : Int) := wrap_small _ (by omega) (by omega)
            have hkd : decide ((0 : Int) < (k : Int)) = true := decide_eq_true (by omega)
            have R4 := cell_grown (a := ⟨r, 4, none⟩) hrl r4i
            have E0 := cell_grown (a := ⟨g, i * 6, none⟩) hgl c0
            have E1 := cell_grown (a := ⟨g, i * 6 + 1, none⟩) hgl c1
            have E2 := cell_grown (a := ⟨g, i * 6 + 2, none⟩) hgl c2
            have E3 := cell_grown (a := ⟨g, i * 6 + 3, none⟩) hgl c3
            have E4 := cell_grown (a := ⟨g, i * 6 + 4, none⟩) hgl c4
            have E5 := cell_grown (a := ⟨g, i * 6 + 5, none⟩) hgl c5
            have O0 := cell_grown (a := ⟨go, p * 6, none⟩) hgo o0
            have O1 := cell_grown (a := ⟨go, p * 6 + 1, none⟩) hgo o1
            have O2 := cell_grown (a := ⟨go, p * 6 + 2, none⟩) hgo o2
            have O3 := cell_grown (a := ⟨go, p * 6 + 3, none⟩) hgo o3
            have O4 := cell_grown (a := ⟨go, p * 6 + 4, none⟩) hgo o4
            have O5 := cell_grown (a := ⟨go, p * 6 + 5, none⟩) hgo o5
            by_cases hbe : cmpE y x < 0
            rotate_left
            · rw [decide_eq_false hbe] at HF
              have HF := hid HF
              have HNX := hid (mleast_skip hleast.out HX.out (HNBE.out hbe))
              clear HBEH HNBE hbe hkp hPp hko hleast HX HKA hdl2
              go_wp2_with fail
              refine wp_region_quiet_grown (by kernel_rfl) (by kernel_rfl) ?_
              repeat (go_big_quiet_step ((go_at_call 50; exact Calls.grown_of (HF.out _ _))))
              refine wpQuiet_nil ?_
              intro _ hw'
              obtain ⟨⟨nq, osq⟩, hw''⟩ := hw'
              subst hw''
              have HB2 := hid (bl_step hB.out (below_grow wi nq osq))
              clear HF
              go_wp2
              go_roundw
              case rel => exact ⟨i + 1, _, by omega, by go_num, rfl, HNX.out, HB2.out⟩
              case measure => simp [intOf]; omega
            rw [decide_eq_true hbe] at HF
            have HF := hid HF
            have HBE := hid (HBEH.out hbe)
            clear HBEH HNBE hbe hkp hPp hko hdl2
            go_wp2_with fail
            refine wp_region_quiet_grown (by kernel_rfl) (by kernel_rfl) ?_
            repeat (go_big_quiet_step ((go_at_call 50; exact Calls.grown_of (HF.out _ _))))
            refine wpQuiet_nil ?_
            intro _ hw'
            obtain ⟨⟨nq, osq⟩, hw''⟩ := hw'
            subst hw''
            have HBJ := hid (below_grow wi nq osq)
            clear HF R4 E0 E1 E2 E3 E4 E5 O0 O1 O2 O3 O4 O5 o0 o1 o2 o3 o4 o5 hk1 hpk hp0 hwp hkd hgo
            generalize Sort.grow (wi.drewN nq) osq = wj at *
          all_goals
            have hBj := hid (bl_step hB.out HBJ.out)
            have RJ := hid (RR.out.step HBJ.out)
            have r4j := (HBJ.out.cell (p := ⟨r, 4, none⟩) hrl).trans r4i
            have d0 := (HBJ.out.cell (p := ⟨g, i * 6, none⟩) hgl).trans c0
            have d1 := (HBJ.out.cell (p := ⟨g, i * 6 + 1, none⟩) hgl).trans c1
            have d2 := (HBJ.out.cell (p := ⟨g, i * 6 + 2, none⟩) hgl).trans c2
            have d3 := (HBJ.out.cell (p := ⟨g, i * 6 + 3, none⟩) hgl).trans c3
            have d4 := (HBJ.out.cell (p := ⟨g, i * 6 + 4, none⟩) hgl).trans c4
            have d5 := (HBJ.out.cell (p := ⟨g, i * 6 + 5, none⟩) hgl).trans c5
            have KJ := hid (HKA.out.step HBJ.out)
            have hgj : g < wj.heap.size := World.block_lt_of_cell? wj _ d0
            have hrj : r < wj.heap.size := World.block_lt_of_cell? wj _ r4j
            clear c0 c1 c2 c3 c4 c5 r4i hgl hrl HKA RR h0
            have HL2 := hid hleast.out
            rcases HL2.out with ⟨rfl, -⟩ | ⟨t', z, rfl, ht', hz, -, -⟩
            · have HNX := hid (mleast_first hleast.out HX.out HBE.out)
              clear hleast HL2 HX HBE RJ
              go_wp2_with fail
              go_quiet (fail)
              have HB2 := hid (bl_step hBj.out (below_drewN (Below.refl wj.heap.size wj) nq))
              go_wp2
              go_roundw
              case rel => exact ⟨i + 1, _, by omega, by go_num, rfl, HNX.out, HB2.out⟩
              case measure => simp [intOf]; omega
            · obtain ⟨g2, dz, egz, ⟨z0, z1, z2, z3, z4, z5⟩, hkz, -, hdl3⟩ := RJ.out.entry hz
              have egz' : g = g2 := by simpa using egz
              subst egz'
              have hzm : z ∈ es := List.mem_of_getElem? hz
              have HF := fun q os => (kahead_any (w := Sort.grow (wj.drewN q) os) (d := d) (f := dz) (KJ.out.step (below_grow wj q os)) (hkz.step (below_grow wj q os)) (by rw [← hkz.ks.1, ← KJ.out.ks.1]; exact (HLE.out x HXM.out z hzm).1) (by rw [← hkz.ms.1, ← KJ.out.ms.1]; exact (HLE.out x HXM.out z hzm).2) (by rw [HDL.out, hdl3])).mono (fun _ _ h => ask_dec h)
              have htd : decide ((t' : Int) < 0) = false := decide_eq_false (by omega)
              have hti : (t' : Int) < (es.length : Int) := by omega
              have R4 := cell_grown (a := ⟨r, 4, none⟩) hrj r4j
              have E0 := cell_grown (a := ⟨g, i * 6, none⟩) hgj d0
              have E1 := cell_grown (a := ⟨g, i * 6 + 1, none⟩) hgj d1
              have E2 := cell_grown (a := ⟨g, i * 6 + 2, none⟩) hgj d2
              have E3 := cell_grown (a := ⟨g, i * 6 + 3, none⟩) hgj d3
              have E4 := cell_grown (a := ⟨g, i * 6 + 4, none⟩) hgj d4
              have E5 := cell_grown (a := ⟨g, i * 6 + 5, none⟩) hgj d5
              have O0 := cell_grown (a := ⟨g, t' * 6, none⟩) hgj z0
              have O1 := cell_grown (a := ⟨g, t' * 6 + 1, none⟩) hgj z1
              have O2 := cell_grown (a := ⟨g, t' * 6 + 2, none⟩) hgj z2
              have O3 := cell_grown (a := ⟨g, t' * 6 + 3, none⟩) hgj z3
              have O4 := cell_grown (a := ⟨g, t' * 6 + 4, none⟩) hgj z4
              have O5 := cell_grown (a := ⟨g, t' * 6 + 5, none⟩) hgj z5
              by_cases hlz : cmpE x z < 0
              · rw [decide_eq_true hlz] at HF
                have HF := hid HF
                have HNX := hid (mleast_more hleast.out hz HX.out HBE.out hlz)
                clear hlz hleast HL2 HX HBE RJ KJ hz hkz egz hdl3
                go_wp2_with fail
                refine wp_region_quiet_grown (by kernel_rfl) (by kernel_rfl) ?_
                repeat (go_big_quiet_step ((go_at_call 50; exact Calls.grown_of (HF.out _ _))))
                refine wpQuiet_nil ?_
                intro _ hw'
                obtain ⟨⟨nq, osq⟩, hw''⟩ := hw'
                subst hw''
                have HB2 := hid (bl_step hBj.out (below_grow wj nq osq))
                clear HF
                go_wp2
                go_roundw
                case rel => exact ⟨i + 1, _, by omega, by go_num, rfl, HNX.out, HB2.out⟩
                case measure => simp [intOf]; omega
              · rw [decide_eq_false hlz] at HF
                have HF := hid HF
                have HNX := hid (mleast_less hleast.out hz HX.out hlz)
                clear hlz hleast HL2 HX HBE RJ KJ hz hkz egz hdl3
                go_wp2_with fail
                refine wp_region_quiet_grown (by kernel_rfl) (by kernel_rfl) ?_
                repeat (go_big_quiet_step ((go_at_call 50; exact Calls.grown_of (HF.out _ _))))
                refine wpQuiet_nil ?_
                intro _ hw'
                obtain ⟨⟨nq, osq⟩, hw''⟩ := hw'
                subst hw''
                have HB2 := hid (bl_step hBj.out (below_grow wj nq osq))
                clear HF
                go_wp2
                go_roundw
                case rel => exact ⟨i + 1, _, by omega, by go_num, rfl, HNX.out, HB2.out⟩
                case measure => simp [intOf]; omega
        · have ei : i = es.length := by omega
          subst ei
          obtain ⟨t', rfl, ht'⟩ := mleast_end HSORT.out HP.out.symm (by omega) hleast.out
          have hPk : P[k]? = some (P[k]'(by omega)) := List.getElem?_eq_getElem _
          generalize P[k]'(by omega) = y at *
          rw [hPk] at ht'
          have hti : t' < es.length := (List.getElem?_eq_some_iff.1 ht').1
          obtain ⟨g', d, eg, ⟨c0, c1, c2, c3, c4, c5⟩, hgd, -, hdl⟩ := RR.out.entry ht'
          have eg' : g = g' := by simpa using eg
          subst eg'
          have htt : (t' : Int) < (es.length : Int) := by omega
          have HOWN := hid (own_any (kc := d.kc) (mc := d.mc) (c := d.c) (ln := d.ln) (pr := d.pr) (ac := d.ac) hgd.kn0 hgd.ks hgd.ks3 hgd.mn0 hgd.ms hgd.ms3 hgd.n0 hgd.xs hgd.xs3)
          have HPK := hid hPk
          have HGD := hid hgd
          have HDL := hid hdl
          obtain ⟨⟨ds, dl, -, dow, dgood⟩, dhd⟩ := hat.out.1
          have DOW := hid dow
          have DG := hid dgood
          clear hgd hleast ht' RR hPk eg dow dgood hdl dhd
          go_wp2_with fail
          refine HOWN.out.mono ?_
          rintro e w3 ⟨ak, ck, am, cm, oa, oc, rfl, lk, lm, lo, hb3⟩
          obtain ⟨i0, hI, hz0, hz1, hz2⟩ := info_parts Try.infoEntry
          clear HOWN c0 c1 c2 c3 c4 c5 r4i
          go_wp2_with (at_builtin; refine wpList_append_own _ rfl _ _ 28 rfl w.heap.size 33 i0 NoEntry 6 96 Try.underlying28 hI hz0 hz1 hz2 rfl (by decide) _ k (ds.flatMap MD.cells) rfl ?c0 ⟨w3.heap.size, 0, none⟩ 1 1 (MD.cells ⟨ak, d.kn, ck, am, d.mn, cm, d.ln, d.pr, d.ac, oa, d.n, oc⟩) rfl rfl ?c1 ?c2 ?c3 ?c4 ?c5 ?_)
          case c0 => exact (owns_below DOW.out (bl_step hB.out hb3)).alloc _
          case c1 => exact rowAt_src (rowAt_alloc w3 _) (by simp [MD.cells])
          case c2 => exact mcells_one _
          case c3 => unfold maxLen; omega
          case c4 => omega
          case c5 => have := hat.out.2.size; have := hB.out.size; have := hb3.size; simp; omega
          intro v5 w6 ho5 hg5 _
          obtain ⟨g5, c5, rfl⟩ := own6v ho5 (by omega)
          have HN : Hid (KAllAt w w6 P (k + 1) (some ⟨g5, 0, none⟩) c5) := kallAt_next hat.out (bl_step hB.out hb3) dl DG.out HPK.out (d := ⟨ak, d.kn, ck, am, d.mn, cm, d.ln, d.pr, d.ac, oa, d.n, oc⟩)
            ⟨lk.1, HGD.out.ks3, lk.2.2.1, lm.1, HGD.out.ms3, lm.2.2.1, HGD.out.pr, HGD.out.ac, lo.1, HGD.out.xs3, lo.2.2.1⟩ ⟨lk.2.2.2.mono (Nat.zero_le _), lm.2.2.2.mono (Nat.zero_le _), lo.2.2.2.mono (Nat.zero_le _)⟩ HDL.out hg5 ho5
          clear ho5 hg5 lk lm lo hb3 hat hB DOW DG
          go_wp2
          go_roundw
          case rel => exact ⟨k + 1, _, c5, by omega, rfl, HN.out⟩
          case measure => simp [klenV]; omega
    · have ek : k = es.length := by omega
      subst ek
      have HEND : Hid (KAllDone w wo P es.length (.returned (.slice la es.length cap))) := by
        refine ⟨la, cap, rfl, ?_, hat.out.2⟩
        have h := hat.out.1.ents
        rwa [List.take_of_length_le (by omega)] at h
      clear hat TR hrow
      go_wp2
      go_ret
      exact HEND.out
end Go.Proofs.Ytlnkfgdepddmlac
