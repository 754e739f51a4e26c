/- (*machine).run. -/
import Derived.Test.YtmceifkjmknjcaaVStep
import Derived.Test.YtmceifkjmknjcaaVLeads
import Derived.Test.YtmceifkjmknjcaaVRes
import Derived.Test.YtmceifkjmknjcaaGChk
namespace Go.Proofs.Ytmceifkjmknjcaa
open Go.RowKit

/-- what a run tells: a fault, how many were done, where the packet goes out, and its bytes -/
structure RunR where
  code : Int
  at_ : Int
  n : Int
  port : Int
  out : List Int

/-- the run from an instruction on, 'done' being done with it -/
def runN (k : MK) (ts : List ShapeD) (C : MD → InsD → Int × MD) (cs : List InsD) : Nat → Nat → Nat → MD → RunR
  | 0, _, _, _ => ⟨0, 0, 0, 0, []⟩
  | f + 1, i, d, m => match cs[i]? with
    | none => ⟨0, 0, 0, 0, []⟩
    | some x => if (stepM k ts C m x).1 ≠ 0 then ⟨(stepM k ts C m x).1, i, 0, 0, []⟩ else if endsB x.op = true then ⟨0, 0, d, if x.op = 17 then -1 else (((stepM k ts C m x).2.rn x.r.toNat % 65536 : Nat) : Int), if x.op = 17 then [] else (stepM k ts C m x).2.out⟩ else runN k ts C cs f (i + 1 + if leadsB k (stepM k ts C m x).2 x = true then x.to.toNat else 0) (d + 1) (stepM k ts C m x).2

/-- what a right program's instructions are like -/
structure CFit (cs : List InsD) : Prop where
  fit : ∀ (i : Nat) (x : InsD), cs[i]? = some x → XFit x ∧ 0 ≤ x.to ∧ (hasT x.op = true → i + 1 + x.to.toNat < cs.length)
  ends : ∀ x : InsD, cs[cs.length - 1]? = some x → endsB x.op = true
  some : 0 < cs.length
  few : cs.length ≤ 60000

/-- what a run has told, in world w' -/
def RunDone (W : World) (R : RunR) (e : Ending) (w' : World) : Prop := ∃ v, e = .returned (.tuple #[v, .int .i64 R.n, .agg #[.int .i64 R.code, .int .i64 R.at_]]) ∧ ResV R.port R.out v w' ∧ Below W.heap.size W w'

theorem leads_hasT {k : MK} {m : MD} {x : InsD} (h : leadsB k m x = true) : hasT x.op = true := by
  unfold leadsB at h
  split at h
  · rename_i e; rw [e]; rfl
  split at h
  · rename_i e; rw [e]; rfl
  split at h
  · rename_i e; rw [e]; rfl
  · have : x.op = 12 := by simpa using h
    rw [this]; rfl

theorem vbytes_byt (n s : Nat) : ∀ x ∈ vbytes n s, 0 ≤ x ∧ x < 256 := by
  induction s with
  | zero => intro x hx; simp [vbytes] at hx
  | succ s ih =>
    intro x hx
    rw [vbytes] at hx
    rcases List.mem_cons.1 hx with rfl | hx
    · omega
    · exact ih x hx

theorem step_out {k : MK} {ts : List ShapeD} {C : MD → InsD → Int × MD} {m : MD} {x : InsD} (hx : XFit x) (h13 : x.op ≠ 13) (hz : k.zs.length ≤ 600) : (stepM k ts C m x).2.out.length ≤ m.out.length + 600 := by
  unfold stepM
  repeat' split
  all_goals first
    | (show m.out.length ≤ _; omega)
    | (show (m.out ++ _).length ≤ _; rw [List.length_append, vbytes_len]; have := hx.pt (by assumption); omega)
    | (show (m.out ++ _).length ≤ _; rw [List.length_append, List.length_drop]; omega)
    | (exfalso; exact h13 (by assumption))
theorem vhas_put {k : IntKind} {w : World} {a : Option Addr} {len : Nat} {zs : List Int} (h : Has k w a len zs) {q : Addr} {u : Value} (hq : w.cell? q = some u) (hu : ∀ n, u ≠ .int k n) (v : Value) : Has k (w.setCell q v) a len zs := by
  refine ⟨h.1, h.2.1, ?_⟩
  rcases h.2.2 with h | ⟨b, off, rfl, hlt, hc⟩
  · exact .inl h
  · refine .inr ⟨b, off, rfl, by rw [World.size_setCell]; exact hlt, fun i hi => ?_⟩
    rw [World.cell?_setCell_other _ _ _ _ (by
      intro e
      rw [e, hc i hi] at hq
      exact hu _ (Option.some.inj hq).symm)]
    exact hc i hi

/-- the boxes of a run's results -/
structure RBox (rb fb : Nat) (w : World) : Prop where
  r : w.heap[rb]? = some (.cells #[.int .i64 0, .slice none 0 0] 30 (0, 0))
  f : w.heap[fb]? = some (.cells #[.int .i64 0, .int .i64 0] 32 (0, 0))

theorem RBox.fram {rb fb b : Nat} {w w' : World} (h : RBox rb fb w) (hf : GFram b w w') (h1 : rb ≠ b) (h2 : fb ≠ b) : RBox rb fb w' := ⟨hf.2 _ _ _ _ h1 (by decide) h.r, hf.2 _ _ _ _ h2 (by decide) h.f⟩
theorem RBox.step {rb fb : Nat} {w w' : World} (h : RBox rb fb w) (hb : Below w.heap.size w w') : RBox rb fb w' := ⟨(hb.block _ (Array.getElem?_eq_some_iff.1 h.r).1).trans h.r, (hb.block _ (Array.getElem?_eq_some_iff.1 h.f).1).trans h.f⟩
structure RCell (rb fb : Nat) (w : World) : Prop where
  r0 : w.cell? ⟨rb, 0, none⟩ = some (.int .i64 0)
  r1 : w.cell? ⟨rb, 1, none⟩ = some (.slice none 0 0)
  f0 : w.cell? ⟨fb, 0, none⟩ = some (.int .i64 0)
  f1 : w.cell? ⟨fb, 1, none⟩ = some (.int .i64 0)
  z0 : w.frozen? ⟨rb, 0, none⟩ = false
  z1 : w.frozen? ⟨rb, 1, none⟩ = false
  y0 : w.frozen? ⟨fb, 0, none⟩ = false
  y1 : w.frozen? ⟨fb, 1, none⟩ = false
  rl : rb < w.heap.size
  fl : fb < w.heap.size
theorem RBox.cells {rb fb : Nat} {w : World} (h : RBox rb fb w) : RCell rb fb w := ⟨by simp [World.cell?, h.r], by simp [World.cell?, h.r], by simp [World.cell?, h.f], by simp [World.cell?, h.f], by simp [World.frozen?, h.r], by simp [World.frozen?, h.r], by simp [World.frozen?, h.f], by simp [World.frozen?, h.f], (Array.getElem?_eq_some_iff.1 h.r).1, (Array.getElem?_eq_some_iff.1 h.f).1⟩

theorem run_put {W : World} {rb fb : Nat} {w : World} (h : RBox rb fb w) (hne : rb ≠ fb) (h1 : W.heap.size ≤ rb) (h2 : W.heap.size ≤ fb) (hb : Below W.heap.size W w) {port c i : Int} {a : Option Addr} {n cc : Nat} {out : List Int} (hr : Has .u8 w a n out) :
    Has .u8 ((((w.setCell ⟨rb, 0, none⟩ (.int .i64 port)).setCell ⟨rb, 1, none⟩ (.slice a n cc)).setCell ⟨fb, 0, none⟩ (.int .i64 c)).setCell ⟨fb, 1, none⟩ (.int .i64 i)) a n out ∧ Below W.heap.size W ((((w.setCell ⟨rb, 0, none⟩ (.int .i64 port)).setCell ⟨rb, 1, none⟩ (.slice a n cc)).setCell ⟨fb, 0, none⟩ (.int .i64 c)).setCell ⟨fb, 1, none⟩ (.int .i64 i)) := by
  have k := h.cells
  have far : ∀ {w : World} {o p : Nat} {v : Value}, (w.setCell ⟨rb, p, none⟩ v).cell? ⟨fb, o, none⟩ = w.cell? ⟨fb, o, none⟩ := World.cell?_setCell_far _ _ _ _ (by show rb ≠ fb; exact hne)
  refine ⟨vhas_put (vhas_put (vhas_put (vhas_put hr k.r0 (fun n e => by cases e) _) (vother (by decide) k.r1) (fun n e => by cases e) _) (far.trans (far.trans k.f0)) (fun n e => by cases e) _) (vother (by decide) (far.trans (far.trans k.f1))) (fun n e => by cases e) _, ?_⟩
  exact (((hb.setCell (p := ⟨rb, 0, none⟩) h1 _).setCell (p := ⟨rb, 1, none⟩) h1 _).setCell (p := ⟨fb, 0, none⟩) h2 _).setCell (p := ⟨fb, 1, none⟩) h2 _

theorem ibox_of {x : InsD} {w : World} {q : Nat} (h : w.heap[q]? = some (.cells #[.int .i64 x.op, .int .i64 x.r, .int .i64 x.s, .int .i64 x.k, .int .i64 x.to, .int .u64 x.n] 40 (0, 0))) : IBox x w q := ⟨by simp [World.cell?, h], by simp [World.cell?, h], by simp [World.cell?, h], by simp [World.cell?, h], by simp [World.cell?, h], by simp [World.cell?, h]⟩

theorem next_lt {k : MK} {cs : List InsD} (hf : CFit cs) {i : Nat} {x : InsD} (hx : cs[i]? = some x) (he : ¬ endsB x.op = true) (m : MD) : (i + 1 + if leadsB k m x = true then x.to.toNat else 0) < cs.length := by
  have hi := (List.getElem?_eq_some_iff.1 hx).1
  split
  · rename_i hl
    exact (hf.fit i x hx).2.2 (leads_hasT hl)
  · rcases Nat.lt_or_ge (i + 1) cs.length with h | h
    · exact h
    · exact absurd (hf.ends x (by rw [show cs.length - 1 = i by omega]; exact hx)) he

theorem runN_fuel {k : MK} {ts : List ShapeD} {C : MD → InsD → Int × MD} {cs : List InsD} (hf : CFit cs) : ∀ (f f' i d : Nat) (m : MD), i < cs.length → cs.length - i ≤ f → cs.length - i ≤ f' → runN k ts C cs f i d m = runN k ts C cs f' i d m := by
  intro f
  induction f with
  | zero => intro f' i d m h1 h2; omega
  | succ f ih =>
    intro f' i d m h1 h2 h3
    cases f' with
    | zero => omega
    | succ f' =>
      have hx : cs[i]? = some cs[i] := List.getElem?_eq_getElem h1
      rw [runN, runN, hx]
      dsimp only
      split
      · rfl
      split
      · rfl
      · rename_i he
        have := next_lt (k := k) hf hx he (stepM k ts C m cs[i]).2
        exact ih f' _ _ _ this (by omega) (by omega)

set_option maxHeartbeats 4000000 in
set_option maxRecDepth 20000 in
theorem vrun {W : World} {b : Nat} {k : MK} {m : MD} {w : World} (ts : List ShapeD) (C : MD → InsD → Int × MD) (h : MAt W b k m w) (hk : PkOk W k) (cs : List InsD) (s : QSl) (hc : QRow 6 InsD.lie W s cs) (hf : CFit cs) (h13 : ∀ x ∈ cs, x.op ≠ 13) (ho : m.out = []) :
    Calls Try.prog 9 #[mptr b, .slice s.a s.n s.c] w (RunDone W (runN k ts C cs cs.length 0 1 m)) := by
  obtain ⟨R, hR⟩ : ∃ R, R = runN k ts C cs cs.length 0 1 m := ⟨_, rfl⟩
  rw [← hR]
  obtain ⟨W2, hW2⟩ : ∃ W2, W2 = (w.alloc (.cells #[.int .i64 0, .slice none 0 0] 30)).alloc (.cells #[.int .i64 0, .int .i64 0] 32) := ⟨_, rfl⟩
  obtain ⟨rb, hrb⟩ : ∃ b, b = w.heap.size := ⟨_, rfl⟩
  obtain ⟨fb, hfb⟩ : ∃ b, b = w.heap.size + 1 := ⟨_, rfl⟩
  have b2 : Below w.heap.size w W2 := by rw [hW2]; exact bl_alloc (bl_alloc (Below.refl _ _))
  have hlt := h.lt
  have hlow := h.low
  have HRB : Hid (RBox rb fb W2) := by
    refine ⟨?_, ?_⟩
    · rw [hW2, hrb]
      have := heap_alloc_new w (.cells #[.int .i64 0, .slice none 0 0] 30)
      rw [(bl_alloc (o := .cells #[.int .i64 0, .int .i64 0] 32) (Below.refl (w.alloc (.cells #[.int .i64 0, .slice none 0 0] 30)).heap.size _)).block w.heap.size (by simp)]
      exact this
    · rw [hW2, hfb]
      have := heap_alloc_new (w.alloc (.cells #[.int .i64 0, .slice none 0 0] 30)) (.cells #[.int .i64 0, .int .i64 0] 32)
      simpa using this
  have HNE : Hid (rb ≠ b ∧ fb ≠ b ∧ rb ≠ fb ∧ W.heap.size ≤ rb ∧ W.heap.size ≤ fb) := ⟨by omega, by omega, by omega, by omega, by omega⟩
  have HM := hid (h.step b2)
  have HR := hid hR
  have HC := hid hc
  have HF := hid hf
  have HK := hid hk
  have H13 := hid h13
  have hn : cs.length = s.n := hc.1
  have HN := hid hn
  have hfew : s.n ≤ 60000 := by rw [← hn]; exact hf.few
  have hpos : 0 < s.n := by rw [← hn]; exact hf.some
  have EW := hid hW2
  have ER := hid hrb
  have EF := hid hfb
  have HO := hid ho
  have HENDS := hid (fun n w => gends n w)
  clear h hk hc hf h13 ho hR hW2 hrb hfb b2 hn hlt hlow
  go_enter Try.func9, Try.ntmps9
  go_wp2
  rw [← EW.out, ← EF.out, ← ER.out]
  clear EW EF ER
  go_loopw [7, 8, 9, 10] (fun v7 v8 _ _ wr => ∃ (i d : Nat) (m' : MD), i < s.n ∧ v7 = .int .i64 i ∧ v8 = .int .i64 d ∧ d ≤ i + 1 ∧ Hid (runN k ts C cs (s.n - i) i d m' = R) ∧ Hid (MAt W b k m' wr) ∧ Hid (GFram b W2 wr) ∧ Hid (m'.out.length ≤ 600 * d)) (fun v7 _ _ _ _ => s.n - (intOf v7).toNat)
  case atStart => exact ⟨0, 1, m, hpos, rfl, rfl, Nat.le_refl _, by rw [Nat.sub_zero, ← HN.out]; exact HR.out.symm, HM, GFram.refl _ _, by rw [HO.out]; exact Nat.zero_le _⟩
  case round =>
    obtain ⟨i, d, m', hi, rfl, rfl, hd, HRUN, HMR, HFR, HOUT⟩ := hrel
    obtain ⟨g, off, x, ea, hx, ⟨x0, _⟩, ⟨x1, _⟩, ⟨x2, _⟩, ⟨x3, _⟩, ⟨x4, _⟩, ⟨x5, _⟩⟩ := grow_at (HC.out.step InsD.keeps HMR.out.bel) hi
    have hii : (i : Int) < (s.n : Int) := by omega
    have hgl : g < wr.heap.size := World.block_lt_of_cell? _ _ x0
    obtain ⟨hxf, hto, hjmp⟩ := HF.out.fit i x hx
    have h13x := H13.out x (List.mem_of_getElem? hx)
    have hstep : Hid (runN k ts C cs (s.n - i) i d m' = if (stepM k ts C m' x).1 ≠ 0 then ⟨(stepM k ts C m' x).1, i, 0, 0, []⟩ else if endsB x.op = true then ⟨0, 0, d, if x.op = 17 then -1 else (((stepM k ts C m' x).2.rn x.r.toNat % 65536 : Nat) : Int), if x.op = 17 then [] else (stepM k ts C m' x).2.out⟩ else runN k ts C cs (s.n - i - 1) (i + 1 + if leadsB k (stepM k ts C m' x).2 x = true then x.to.toNat else 0) (d + 1) (stepM k ts C m' x).2) := by
      show _ = _
      obtain ⟨f, hfu⟩ : ∃ f, s.n - i = f + 1 := ⟨s.n - i - 1, by omega⟩
      rw [hfu, runN, hx, Nat.add_sub_cancel]
    obtain ⟨W3, hW3⟩ : ∃ W3, W3 = wr.alloc (.cells #[.int .i64 x.op, .int .i64 x.r, .int .i64 x.s, .int .i64 x.k, .int .i64 x.to, .int .u64 x.n] 40) := ⟨_, rfl⟩
    obtain ⟨q, hq⟩ : ∃ q, q = wr.heap.size := ⟨_, rfl⟩
    have b3 : Below wr.heap.size wr W3 := by rw [hW3]; exact bl_alloc (Below.refl _ _)
    have hbox : W3.heap[q]? = some (.cells #[.int .i64 x.op, .int .i64 x.r, .int .i64 x.s, .int .i64 x.k, .int .i64 x.to, .int .u64 x.n] 40 (0, 0)) := by rw [hW3, hq]; exact heap_alloc_new wr _
    have hqb : q ≠ b := by have := HMR.out.lt; omega
    have hzl : k.zs.length ≤ 600 := by rw [HK.out.has.1]; exact HK.out.few
    have hout := HOUT.out
    have hd6 : d ≤ 60000 := by omega
    have HST := hid (vstep ts C (HMR.out.step b3) HK.out x hxf h13x (by omega))
    have HOUT2 : Hid ((stepM k ts C m' x).2.out.length ≤ 600 * (d + 1)) := by
      have := step_out (k := k) (ts := ts) (C := C) (m := m') hxf h13x hzl
      show _ ≤ _
      omega
    rw [ea]
    have IB := ibox_of hbox
    have j0 := IB.c0
    have j1 := IB.c1
    have j2 := IB.c2
    have j3 := IB.c3
    have j4 := IB.c4
    have j5 := IB.c5
    have hql : q < W3.heap.size := World.block_lt_of_cell? _ _ j0
    have HBOX := hid hbox
    have HFR3 := hid (HFR.out.trans (GFram.below b3))
    have EW3 := hid hW3
    have EQ := hid hq
    have HXF := hid hxf
    have HTO := hid hto
    have HJ := hid hjmp
    have HX := hid hx
    have HQB := hid hqb
    generalize hS : stepM k ts C m' x = S at *
    obtain ⟨c, m2⟩ := S
    dsimp only at HST hstep HOUT2
    dsimp only [InsD.v] at HST
    clear IB hbox b3 hW3 hq hxf hto hjmp hx hqb hzl hout hd6 HOUT HMR HFR hS h13x
    go_upto_region 5 with fail
    rw [← EW3.out, ← EQ.out]
    clear EW3 EQ x0 x1 x2 x3 x4 x5 hgl
    go_wp2_with fail
    refine HST.out.mono ?_
    rintro e w4 ⟨rfl, hm4, hf4⟩
    clear j0 j1 j2 j3 j4 j5 hql HST
    have hbox4 := hf4.2 _ _ _ _ HQB.out (by decide) HBOX.out
    have IB := ibox_of hbox4
    have HRB4 := hid (HRB.out.fram (HFR3.out.trans hf4) HNE.out.1 HNE.out.2.1)
    have HM4 := hid hm4
    have HF4 := hid (HFR3.out.trans hf4)
    have HIB := hid IB
    have j0 := IB.c0
    have j1 := IB.c1
    have j2 := IB.c2
    have j3 := IB.c3
    have j4 := IB.c4
    have j5 := IB.c5
    have hql : q < w4.heap.size := World.block_lt_of_cell? _ _ j0
    clear hbox4 IB hm4 hf4 HFR3 HBOX
    by_cases hc0 : c = 0
    · subst hc0
      rw [if_neg (by decide)] at hstep
      cases he : endsB x.op with
      | true =>
        rw [he, if_pos rfl] at hstep
        have hop : x.op = 16 ∨ x.op = 17 := by unfold endsB at he; simpa using he
        have HRS := hid (vresult HM4.out x HXF.out.r hop)
        dsimp only [InsD.v] at HRS
        have EE := hid he
        clear he hop
        go_wp2_with fail
        refine (HENDS.out _ _).mono ?_
        rintro e w5 ⟨rfl, rfl⟩
        rw [EE.out]
        clear HENDS EE
        go_wp2_with fail
        refine HRS.out.mono ?_
        rintro e w6 ⟨v, rfl, ⟨a, cc, rfl, hh, hnil, hcap⟩, hb6⟩
        have HRB6 := hid (HRB4.out.step hb6)
        obtain ⟨k0, k1, k2, k3, k4, k5, k6, k7, k8, k9⟩ := HRB6.out.cells
        have hne := HNE.out.2.2.1
        generalize hport : (if x.op = 17 then (-1 : Int) else ((m2.rn x.r.toNat % 65536 : Nat) : Int)) = port at *
        generalize hlist : (if x.op = 17 then ([] : List Int) else m2.out) = out at *
        generalize hol : out.length = ol at *
        have HD : Hid (RunDone W R (.returned (.tuple #[.agg #[.int .i64 port, .slice a ol cc], .int .i64 (d : Int), .agg #[.int .i64 0, .int .i64 0]])) ((((w6.setCell ⟨rb, 0, none⟩ (.int .i64 port)).setCell ⟨rb, 1, none⟩ (.slice a ol cc)).setCell ⟨fb, 0, none⟩ (.int .i64 0)).setCell ⟨fb, 1, none⟩ (.int .i64 0))) := by
          have hr := HRUN.out
          rw [hstep.out] at hr
          obtain ⟨hhas, hbb⟩ := run_put (port := port) (c := 0) (i := 0) (cc := cc) HRB6.out HNE.out.2.2.1 HNE.out.2.2.2.1 HNE.out.2.2.2.2 (bl_step HM4.out.bel hb6) hh
          rw [← hr]
          refine ⟨_, rfl, ⟨a, cc, ?_, ?_, hnil, ?_⟩, hbb⟩
          · rw [← hol]
          · rw [hol]; exact hhas
          · rw [hol]; exact hcap
        clear HRUN hstep HM4 HF4 HRB4 HIB HXF HTO HJ HX HOUT2 j0 j1 j2 j3 j4 j5 HRS hh hnil hcap hb6 hport hlist hol HRB6
        go_wp2
        exact bodyPost_ret (v := .tuple #[.agg #[.int .i64 port, .slice a ol cc], .int .i64 (d : Int), .agg #[.int .i64 0, .int .i64 0]]) (by simp [results, Try.results9, go_sem, *]) rfl HD.out
      | false =>
        rw [he, if_neg (by decide)] at hstep
        have hi1 : i + 1 < s.n := by
          rcases Nat.lt_or_ge (i + 1) s.n with h | h
          · exact h
          · have := HF.out.ends x (by rw [HN.out, show s.n - 1 = i by omega]; exact HX.out)
            rw [he] at this
            cases this
        have hsx : 0 ≤ x.s ∧ x.s < 10 := HXF.out.s.resolve_left (H13.out x (List.mem_of_getElem? HX.out))
        have HLD := hid (vleads HM4.out HK.out.few x HXF.out.r hsx HXF.out.n0.1)
        dsimp only [InsD.v] at HLD
        have EE := hid he
        have hw1 := gwrap_i ((i : Int) + 1) (by omega) (by omega)
        have hwd := gwrap_i ((d : Int) + 1) (by omega) (by omega)
        have HJ2 : Hid (leadsB k m2 x = true → i + 1 + x.to.toNat < s.n) := fun h => by
          have := HJ.out (leads_hasT h)
          rw [HN.out] at this
          exact this
        clear he hsx
        go_wp2_with fail
        refine (HENDS.out _ _).mono ?_
        rintro e w5 ⟨rfl, rfl⟩
        rw [EE.out]
        clear EE
        go_wp2_with fail
        refine HLD.out.mono ?_
        rintro e w6 ⟨rfl, hb6⟩
        clear HLD j0 j1 j2 j3 j4 j5
        have j4 := (HIB.out.step hb6).c4
        have hq6 : q < w6.heap.size := World.block_lt_of_cell? _ _ j4
        have HM6 := hid (HM4.out.step hb6)
        have HF6 := hid (HF4.out.trans (GFram.below hb6))
        clear hb6 HM4 HF4 HIB HRB4
        cases hl : leadsB k m2 x with
        | true =>
          rw [hl, if_pos rfl] at hstep
          have hj := HJ2.out hl
          obtain ⟨t, ht⟩ : ∃ t : Nat, x.to = t := ⟨x.to.toNat, by have := HTO.out; omega⟩
          rw [ht] at j4 hj hstep
          rw [Int.toNat_natCast] at hj hstep
          have hw2 := gwrap_i ((i : Int) + 1 + (t : Int)) (by omega) (by omega)
          have HT2 : Hid (runN k ts C cs (s.n - (i + 1 + t)) (i + 1 + t) (d + 1) m2 = R) := by
            show _ = _
            rw [← HRUN.out, hstep.out]
            exact runN_fuel HF.out _ _ _ _ _ (by rw [HN.out]; exact hj) (by rw [HN.out]; exact Nat.le_refl _) (by rw [HN.out]; omega)
          clear hl HRUN hstep HJ2 HTO HXF HJ HX ht
          go_wp2
          go_roundw
          case rel => exact ⟨i + 1 + t, d + 1, m2, hj, by go_num, by go_num, by omega, HT2, HM6, HF6, HOUT2⟩
          case measure => simp [intOf]; omega
        | false =>
          rw [hl, if_neg (by decide), Nat.add_zero] at hstep
          have HT2 : Hid (runN k ts C cs (s.n - (i + 1)) (i + 1) (d + 1) m2 = R) := by
            show _ = _
            rw [← HRUN.out, hstep.out, Nat.sub_sub]
          clear hl HRUN hstep HJ2 HTO HXF HJ HX
          go_wp2
          go_roundw
          case rel => exact ⟨i + 1, d + 1, m2, hi1, by go_num, by go_num, by omega, HT2, HM6, HF6, HOUT2⟩
          case measure => simp [intOf]; omega
    · have hcb : (c != 0) = true := by simpa using hc0
      obtain ⟨k0, k1, k2, k3, k4, k5, k6, k7, k8, k9⟩ := HRB4.out.cells
      have hne := HNE.out.2.2.1
      have HD : Hid (RunDone W R (.returned (.tuple #[.agg #[.int .i64 0, .slice none 0 0], .int .i64 0, .agg #[.int .i64 c, .int .i64 (i : Int)]])) ((((w4.setCell ⟨rb, 0, none⟩ (.int .i64 0)).setCell ⟨rb, 1, none⟩ (.slice none 0 0)).setCell ⟨fb, 0, none⟩ (.int .i64 c)).setCell ⟨fb, 1, none⟩ (.int .i64 (i : Int)))) := by
        have hr := HRUN.out
        rw [hstep.out, if_pos hc0] at hr
        obtain ⟨_, hbb⟩ := run_put (port := 0) (c := c) (i := (i : Int)) (cc := 0) HRB4.out HNE.out.2.2.1 HNE.out.2.2.2.1 HNE.out.2.2.2.2 HM4.out.bel (has_nil .u8 w4)
        rw [← hr]
        exact ⟨_, rfl, ⟨none, 0, rfl, has_nil _ _, fun _ => ⟨rfl, rfl⟩, Nat.le_refl _⟩, hbb⟩
      clear HRUN hstep HM4 HF4 HRB4 HIB HXF HTO HJ HX HOUT2 j0 j1 j2 j3 j4 j5
      go_wp2
      exact bodyPost_ret (v := .tuple #[.agg #[.int .i64 0, .slice none 0 0], .int .i64 0, .agg #[.int .i64 c, .int .i64 (i : Int)]]) (by simp [results, Try.results9, go_sem, *]) rfl HD.out
end Go.Proofs.Ytmceifkjmknjcaa
