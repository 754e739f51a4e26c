/- What the document's own and OwnEntry do. -/
import Derived.Test.YtlnkfgdepddmlacLSteps
import Derived.Deep.RegionHeld3
namespace Go.Proofs.Ytlnkfgdepddmlac
open Go.RowKit Mth

abbrev EC (ka : Option Addr) (kn kc : Nat) (ma : Option Addr) (mn mc : Nat) (ln pr ac : Int) (a : Option Addr) (n c : Nat) : Obj := .cells #[.slice ka kn kc, .slice ma mn mc, .int .i64 ln, .int .i64 pr, .int .i64 ac, .slice a n c] 33

/-- six cells of a block stay -/
theorem keep6 {w w' : World} {s : Nat} {x0 x1 x2 x3 x4 x5 : Value} (h : w.cell? ⟨s, 0, none⟩ = some x0 ∧ w.cell? ⟨s, 1, none⟩ = some x1 ∧ w.cell? ⟨s, 2, none⟩ = some x2 ∧ w.cell? ⟨s, 3, none⟩ = some x3 ∧ w.cell? ⟨s, 4, none⟩ = some x4 ∧ w.cell? ⟨s, 5, none⟩ = some x5) (hb : Below w.heap.size w w') :
    w'.cell? ⟨s, 0, none⟩ = some x0 ∧ w'.cell? ⟨s, 1, none⟩ = some x1 ∧ w'.cell? ⟨s, 2, none⟩ = some x2 ∧ w'.cell? ⟨s, 3, none⟩ = some x3 ∧ w'.cell? ⟨s, 4, none⟩ = some x4 ∧ w'.cell? ⟨s, 5, none⟩ = some x5 := by
  have hs := World.block_lt_of_cell? w _ h.1
  have cs : ∀ i, w'.cell? ⟨s, i, none⟩ = w.cell? ⟨s, i, none⟩ := fun i => hb.cell (p := ⟨s, i, none⟩) hs
  rw [cs, cs, cs, cs, cs, cs]
  exact h

/-- an entry lies in a block of its own -/
structure Six (w : World) (s : Nat) (x0 x1 x2 x3 x4 x5 : Value) : Prop where
  k0 : w.cell? ⟨s, 0, none⟩ = some x0
  k1 : w.cell? ⟨s, 1, none⟩ = some x1
  k2 : w.cell? ⟨s, 2, none⟩ = some x2
  k3 : w.cell? ⟨s, 3, none⟩ = some x3
  k4 : w.cell? ⟨s, 4, none⟩ = some x4
  k5 : w.cell? ⟨s, 5, none⟩ = some x5
  f0 : w.frozen? ⟨s, 0, none⟩ = false
  f1 : w.frozen? ⟨s, 1, none⟩ = false
  f2 : w.frozen? ⟨s, 2, none⟩ = false
  f3 : w.frozen? ⟨s, 3, none⟩ = false
  f4 : w.frozen? ⟨s, 4, none⟩ = false
  f5 : w.frozen? ⟨s, 5, none⟩ = false

theorem Six.step {w w' : World} {s : Nat} {x0 x1 x2 x3 x4 x5 : Value} (t : Six w s x0 x1 x2 x3 x4 x5) (h : Below w.heap.size w w') : Six w' s x0 x1 x2 x3 x4 x5 := by
  have hs := World.block_lt_of_cell? w _ t.k0
  have cs : ∀ i, w'.cell? ⟨s, i, none⟩ = w.cell? ⟨s, i, none⟩ := fun i => h.cell (p := ⟨s, i, none⟩) hs
  have cf : ∀ i, w'.frozen? ⟨s, i, none⟩ = w.frozen? ⟨s, i, none⟩ := fun i => h.frozen (p := ⟨s, i, none⟩) hs
  exact ⟨(cs 0).trans t.k0, (cs 1).trans t.k1, (cs 2).trans t.k2, (cs 3).trans t.k3, (cs 4).trans t.k4, (cs 5).trans t.k5, (cf 0).trans t.f0, (cf 1).trans t.f1, (cf 2).trans t.f2, (cf 3).trans t.f3, (cf 4).trans t.f4, (cf 5).trans t.f5⟩

/-- and a block that is not turned away from it -/
theorem Six.moved {w w' : World} {s : Nat} {x0 x1 x2 x3 x4 x5 : Value} (t : Six w s x0 x1 x2 x3 x4 x5) (h : Moved w w') (hx : ¬ Loose x0) : Six w' s x0 x1 x2 x3 x4 x5 :=
  ⟨h.cell t.k0 t.k0 hx, h.cell t.k1 t.k0 hx, h.cell t.k2 t.k0 hx, h.cell t.k3 t.k0 hx, h.cell t.k4 t.k0 hx, h.cell t.k5 t.k0 hx, (h.frozen t.k0 hx).trans t.f0, (h.frozen t.k0 hx).trans t.f1, (h.frozen t.k0 hx).trans t.f2, (h.frozen t.k0 hx).trans t.f3, (h.frozen t.k0 hx).trans t.f4, (h.frozen t.k0 hx).trans t.f5⟩

theorem six_new (w : World) (x0 x1 x2 x3 x4 x5 : Value) (t : TypeId) : Six (w.alloc (.cells #[x0, x1, x2, x3, x4, x5] t)) w.heap.size x0 x1 x2 x3 x4 x5 :=
  ⟨by simp, by simp, by simp, by simp, by simp, by simp, by simp, by simp, by simp, by simp, by simp, by simp⟩

/-- numbers stay where another block is turned -/
theorem Has.far {w : World} {a : Option Addr} {n B r o : Nat} {zs : List Int} (h : Has .u64 w a n zs) (f : From B a n) (hr : r < B) (v : Value) : Has .u64 (w.setCell ⟨r, o, none⟩ v) a n zs := by
  refine ⟨h.1, h.2.1, ?_⟩
  by_cases h0 : 0 < n
  · obtain ⟨b, off, rfl, hlt, hc⟩ := h.some h0
    obtain ⟨b', off', e, hb, _⟩ := f h0
    simp only [Option.some.injEq, Addr.mk.injEq] at e
    obtain ⟨rfl, rfl, _⟩ := e
    refine .inr ⟨b, off, rfl, by simpa [World.setCell] using hlt, fun i hi => ?_⟩
    rw [World.cell?_setCell_other _ _ _ _ (fun e => by have := congrArg Addr.block e; simp only at this; omega)]
    exact hc i hi
  · exact .inl (List.eq_nil_of_length_eq_zero (by have := h.1; omega))

/-- a list of numbers from block B on -/
def Lst (w : World) (B : Nat) (a : Option Addr) (n c : Nat) (zs : List Int) : Prop := (a = none → n = 0 ∧ c = 0) ∧ n ≤ c ∧ Has .u64 w a n zs ∧ From B a n

theorem Lst.moved {w w' : World} {B : Nat} {a : Option Addr} {n c : Nat} {zs : List Int} (h : Lst w B a n c zs) (m : Moved w w') : Lst w' B a n c zs := ⟨h.1, h.2.1, m.has h.2.2.1, h.2.2.2⟩

theorem Lst.mono {w : World} {B B' : Nat} {a : Option Addr} {n c : Nat} {zs : List Int} (h : Lst w B a n c zs) (hB : B' ≤ B) : Lst w B' a n c zs := ⟨h.1, h.2.1, h.2.2.1, h.2.2.2.mono hB⟩

theorem lst_own {w w' : World} {B r : Nat} {a : Option Addr} {n c : Nat} {zs : List Int} {v0 v1 v2 v3 v4 v5 : Value} (ho : w.ownsRow B 38 1 (.slice a n c) n (UU zs)) (hn : a = none → n = 0 ∧ c = 0) (hc : n ≤ c) (hz : ∀ n ∈ zs, 0 ≤ n ∧ n < 18446744073709551616) (hr : r < B) (hb : Below w.heap.size w w') {B' : Nat} (hB : B' ≤ B) :
    Lst ((((((w'.setCell ⟨r, 0, none⟩ v0).setCell ⟨r, 1, none⟩ v1).setCell ⟨r, 2, none⟩ v2).setCell ⟨r, 3, none⟩ v3).setCell ⟨r, 4, none⟩ v4).setCell ⟨r, 5, none⟩ v5) B' a n c zs := by
  have f := own_from ho
  exact ⟨hn, hc, ((((((((has_own64 ho hz).step hb).far f hr v0).far f hr v1).far f hr v2).far f hr v3).far f hr v4).far f hr v5), f.mono hB⟩

/-- six cells were written -/
theorem six_set {w : World} {s : Nat} {x0 x1 x2 x3 x4 x5 : Value} (t : Six w s x0 x1 x2 x3 x4 x5) (v0 v1 v2 v3 v4 v5 : Value) :
    Six ((((((w.setCell ⟨s, 0, none⟩ v0).setCell ⟨s, 1, none⟩ v1).setCell ⟨s, 2, none⟩ v2).setCell ⟨s, 3, none⟩ v3).setCell ⟨s, 4, none⟩ v4).setCell ⟨s, 5, none⟩ v5) s v0 v1 v2 v3 v4 v5 := by
  have k0 := t.k0
  have k1 := t.k1
  have k2 := t.k2
  have k3 := t.k3
  have k4 := t.k4
  have k5 := t.k5
  have f0 := t.f0
  have f1 := t.f1
  have f2 := t.f2
  have f3 := t.f3
  have f4 := t.f4
  have f5 := t.f5
  refine ⟨?_, ?_, ?_, ?_, ?_, ?_, by simpa using f0, by simpa using f1, by simpa using f2, by simpa using f3, by simpa using f4, by simpa using f5⟩ <;> simp [go_sem, k0, k1, k2, k3, k4, k5]

abbrev EV (ka : Option Addr) (kn kc : Nat) (ma : Option Addr) (mn mc : Nat) (ln pr ac : Int) (a : Option Addr) (n c : Nat) : Value := .agg #[.slice ka kn kc, .slice ma mn mc, .int .i64 ln, .int .i64 pr, .int .i64 ac, .slice a n c]

def OwnDone (w w' : World) (kn mn n : Nat) (ln pr ac : Int) (ks ms xs : List Int) (e : Ending) : Prop :=
  ∃ ak ck am cm aa ca, e = .returned (EV ak kn ck am mn cm ln pr ac aa n ca) ∧ Lst w' w.heap.size ak kn ck ks ∧ Lst w' w.heap.size am mn cm ms ∧ Lst w' w.heap.size aa n ca xs ∧ Below w.heap.size w w'

set_option maxHeartbeats 4000000 in
set_option maxRecDepth 20000 in
theorem own_any {w : World} {ka ma a : Option Addr} {kn kc mn mc n c : Nat} {ln pr ac : Int} {ks ms xs : List Int} (hkn : ka = none → kn = 0 ∧ kc = 0) (hk : Has .u64 w ka kn ks) (hk3 : kn ≤ 1000) (hmn : ma = none → mn = 0 ∧ mc = 0) (hm : Has .u64 w ma mn ms) (hm3 : mn ≤ 1000) (hxn : a = none → n = 0 ∧ c = 0) (hx : Has .u64 w a n xs) (hx3 : n ≤ 1000) :
    Calls Try.prog 47 #[EV ka kn kc ma mn mc ln pr ac a n c] w fun e w' => OwnDone w w' kn mn n ln pr ac ks ms xs e := by
  have hb0 : Below w.heap.size w ((w.alloc (EC ka kn kc ma mn mc ln pr ac a n c)).alloc (EC none 0 0 none 0 0 0 0 0 none 0 0)) := bl_alloc (bl_alloc (Below.refl _ _))
  have HK := hid (hk.step hb0)
  have HM := hid (hm.step hb0)
  have HX := hid (hx.step hb0)
  have HKN := hid hkn
  have HMN := hid hmn
  have HXN := hid hxn
  have T := (six_new w (.slice ka kn kc) (.slice ma mn mc) (.int .i64 ln) (.int .i64 pr) (.int .i64 ac) (.slice a n c) 33).step (bl_alloc (o := EC none 0 0 none 0 0 0 0 0 none 0 0) (Below.refl _ _))
  have hR := six_new (w.alloc (EC ka kn kc ma mn mc ln pr ac a n c)) (.slice none 0 0) (.slice none 0 0) (.int .i64 0) (.int .i64 0) (.int .i64 0) (.slice none 0 0) 33
  rw [show (w.alloc (EC ka kn kc ma mn mc ln pr ac a n c)).heap.size = w.heap.size + 1 from by simp] at hR
  have HB0 := hid hb0
  have HR := hid hR
  clear hk hm hx hkn hmn hxn hb0 hR
  go_enter Try.func47, Try.ntmps47
  go_wp2
  generalize (w.alloc (EC ka kn kc ma mn mc ln pr ac a n c)).alloc (EC none 0 0 none 0 0 0 0 0 none 0 0) = w0 at *
  obtain ⟨k0, k1, k2, k3, k4, k5, _, _, _, _, _, _⟩ := T
  have R0 := hid (HR.out.step (Below.refl w0.heap.size w0).drew)
  have HK0 := hid HK.out.drew
  have HM0 := hid HM.out.drew
  have HX0 := hid HX.out.drew
  clear HK HM HX HR
  go_region_held3 (fun w' => w'.cell? ⟨w.heap.size, 0, none⟩ = some (.slice ka kn kc) ∧ w'.cell? ⟨w.heap.size, 1, none⟩ = some (.slice ma mn mc) ∧ w'.cell? ⟨w.heap.size, 2, none⟩ = some (.int .i64 ln) ∧ w'.cell? ⟨w.heap.size, 3, none⟩ = some (.int .i64 pr) ∧ w'.cell? ⟨w.heap.size, 4, none⟩ = some (.int .i64 ac) ∧ w'.cell? ⟨w.heap.size, 5, none⟩ = some (.slice a n c))
    (first
      | go_keep
      | (go_split_ands
         first
         | exact keep6 ⟨by assumption, by assumption, by assumption, by assumption, by assumption, by assumption⟩ hbk
         | exact keep6 ⟨by assumption, by assumption, by assumption, by assumption, by assumption, by assumption⟩ hbm
         | exact keep6 ⟨by assumption, by assumption, by assumption, by assumption, by assumption, by assumption⟩ hba))
    (first
      | (refine step64 (by rfl) _ _ (by rfl) kn kc ks ka (by rfl) (by rfl) HKN.out (by first | exact HK0.out | exact HK0.out.step hbm | exact HK0.out.step hba | exact (HK0.out.step hbm).step hba | exact (HK0.out.step hba).step hbm) (by omega) ?_; intro vk wk hok hbk; obtain ⟨ak, ck, rfl, hck, hnk⟩ := own_is hok; have Rk : Six wk (w.heap.size + 1) (.slice none 0 0) (.slice none 0 0) (.int .i64 0) (.int .i64 0) (.int .i64 0) (.slice none 0 0) := (by first | exact R0.out.step hbk | exact (R0.out.step hbm).step hbk | exact (R0.out.step hba).step hbk | exact ((R0.out.step hbm).step hba).step hbk | exact ((R0.out.step hba).step hbm).step hbk); obtain ⟨_, _, _, _, _, _, _, _, _, _, _, _⟩ := Rk)
      | (refine step64 (by rfl) _ _ (by rfl) mn mc ms ma (by rfl) (by rfl) HMN.out (by first | exact HM0.out | exact HM0.out.step hbk | exact HM0.out.step hba | exact (HM0.out.step hbk).step hba | exact (HM0.out.step hba).step hbk) (by omega) ?_; intro vm wm hom hbm; obtain ⟨am, cm, rfl, hcm, hnm⟩ := own_is hom; have Rm : Six wm (w.heap.size + 1) (.slice none 0 0) (.slice none 0 0) (.int .i64 0) (.int .i64 0) (.int .i64 0) (.slice none 0 0) := (by first | exact R0.out.step hbm | exact (R0.out.step hbk).step hbm | exact (R0.out.step hba).step hbm | exact ((R0.out.step hbk).step hba).step hbm | exact ((R0.out.step hba).step hbk).step hbm); obtain ⟨_, _, _, _, _, _, _, _, _, _, _, _⟩ := Rm)
      | (refine step64 (by rfl) _ _ (by rfl) n c xs a (by rfl) (by rfl) HXN.out (by first | exact HX0.out | exact HX0.out.step hbk | exact HX0.out.step hbm | exact (HX0.out.step hbk).step hbm | exact (HX0.out.step hbm).step hbk) (by omega) ?_; intro va wa hoa hba; obtain ⟨aa, ca, rfl, hca, hna⟩ := own_is hoa; have Ra : Six wa (w.heap.size + 1) (.slice none 0 0) (.slice none 0 0) (.int .i64 0) (.int .i64 0) (.int .i64 0) (.slice none 0 0) := (by first | exact R0.out.step hba | exact (R0.out.step hbk).step hba | exact (R0.out.step hbm).step hba | exact ((R0.out.step hbk).step hbm).step hba | exact ((R0.out.step hbm).step hbk).step hba); obtain ⟨_, _, _, _, _, _, _, _, _, _, _, _⟩ := Ra))
  all_goals
    have hlt : w.heap.size + 1 < w0.drew.heap.size := World.block_lt_of_cell? w0.drew _ R0.out.k0
    have h0 : w.heap.size ≤ w0.drew.heap.size := by omega
    have hS := six_set ((((R0.out.step hbk).step hbm).step hba)) (.slice ak kn ck) (.slice am mn cm) (.int .i64 ln) (.int .i64 pr) (.int .i64 ac) (.slice aa n ca)
    have hB : Below w.heap.size w wa := bl_step (bl_step (bl_step (bl_step HB0.out (Below.refl w0.heap.size w0).drew) hbk) hbm) hba
    have hm1 : w0.drew.heap.size ≤ wk.heap.size := hbk.size
    have hm2 : wk.heap.size ≤ wm.heap.size := hbm.size
    have HE : Hid (OwnDone w _ kn mn n ln pr ac ks ms xs (.returned (EV ak kn ck am mn cm ln pr ac aa n ca))) := ⟨ak, ck, am, cm, aa, ca, rfl,
      lst_own hok hnk hck HK0.out.nums hlt (bl_step hbm hba) h0, lst_own hom hnm hcm HM0.out.nums (by omega) hba (by omega), lst_own hoa hna hca HX0.out.nums (by omega) (Below.refl _ _) (by omega),
      (((((hB.setCell (p := ⟨w.heap.size + 1, 0, none⟩) (by simp) (.slice ak kn ck)).setCell (p := ⟨w.heap.size + 1, 1, none⟩) (by simp) (.slice am mn cm)).setCell (p := ⟨w.heap.size + 1, 2, none⟩) (by simp) (.int .i64 ln)).setCell (p := ⟨w.heap.size + 1, 3, none⟩) (by simp) (.int .i64 pr)).setCell (p := ⟨w.heap.size + 1, 4, none⟩) (by simp) (.int .i64 ac)).setCell (p := ⟨w.heap.size + 1, 5, none⟩) (by simp) (.slice aa n ca)⟩
    obtain ⟨s0, s1, s2, s3, s4, s5, _, _, _, _, _, _⟩ := hS
    clear hok hom hoa hbk hbm hba hB
    go_wp2
    exact bodyPost_ret (v := EV ak kn ck am mn cm ln pr ac aa n ca) (by simp [results, Try.results47, go_sem, s0, s1, s2, s3, s4, s5]) rfl HE.out
end Go.Proofs.Ytlnkfgdepddmlac
