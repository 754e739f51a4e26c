/- Entries with masks, as they lie; how two of them are compared. -/
import Derived.Test.YtlnkfgdepddmlacMSmall
import Derived.Test.YtlnkfgdepddmlacLOwn
import Derived.Shelf.SlSortCmp.QuietGrown
namespace Go.Proofs.Ytlnkfgdepddmlac
open Go.RowKit Mth

/-- where the lists of an entry lie -/
structure MD where
  ka : Option Addr
  kn : Nat
  kc : Nat
  ma : Option Addr
  mn : Nat
  mc : Nat
  ln : Int
  pr : Int
  ac : Int
  a : Option Addr
  n : Nat
  c : Nat

abbrev MD.ev (d : MD) : Value := EV d.ka d.kn d.kc d.ma d.mn d.mc d.ln d.pr d.ac d.a d.n d.c
abbrev MD.ec (d : MD) : Obj := EC d.ka d.kn d.kc d.ma d.mn d.mc d.ln d.pr d.ac d.a d.n d.c

def MD.cells (d : MD) : List Value := [.slice d.ka d.kn d.kc, .slice d.ma d.mn d.mc, .int .i64 d.ln, .int .i64 d.pr, .int .i64 d.ac, .slice d.a d.n d.c]

/-- an entry, as it lies -/
structure MD.good (d : MD) (w : World) (e : TE) : Prop where
  kn0 : d.ka = none → d.kn = 0 ∧ d.kc = 0
  ks3 : d.kn ≤ 1000
  ks : Has .u64 w d.ka d.kn e.ks
  mn0 : d.ma = none → d.mn = 0 ∧ d.mc = 0
  ms3 : d.mn ≤ 1000
  ms : Has .u64 w d.ma d.mn e.ms
  pr : d.pr = e.pr
  ac : d.ac = e.ac
  n0 : d.a = none → d.n = 0 ∧ d.c = 0
  xs3 : d.n ≤ 1000
  xs : Has .u64 w d.a d.n e.xs

/-- its lists lie at the head of their blocks -/
def MD.new (d : MD) (B : Nat) : Prop := From B d.ka d.kn ∧ From B d.ma d.mn ∧ From B d.a d.n

theorem MD.good.keep {d : MD} {w w' : World} {e : TE} (h : d.good w e) (f : d.new 0) (hh : ∀ (a : Option Addr) (m : Nat) (zs : List Int), From 0 a m → Has .u64 w a m zs → Has .u64 w' a m zs) : d.good w' e :=
  ⟨h.kn0, h.ks3, hh _ _ _ f.1 h.ks, h.mn0, h.ms3, hh _ _ _ f.2.1 h.ms, h.pr, h.ac, h.n0, h.xs3, hh _ _ _ f.2.2 h.xs⟩

theorem MD.good.step {d : MD} {w w' : World} {e : TE} (h : d.good w e) (hb : Below w.heap.size w w') : d.good w' e :=
  ⟨h.kn0, h.ks3, h.ks.step hb, h.mn0, h.ms3, h.ms.step hb, h.pr, h.ac, h.n0, h.xs3, h.xs.step hb⟩

/-- a call that only reads, but lays blocks of its own -/
def Grew (w w' : World) : Prop := ∃ q os, w' = Sort.grow (w.drewN q) os

theorem below_grow (w : World) (q : Nat) (os : Array Obj) : Below w.heap.size w (Sort.grow (w.drewN q) os) :=
  ⟨rfl, rfl, rfl, by simp only [Sort.size_grow]; exact Nat.le_add_right _ _, fun k hk => Sort.heap_grow_old (w.drewN q) os hk⟩

theorem Grew.below {w w' : World} (h : Grew w w') : Below w.heap.size w w' := by obtain ⟨q, os, rfl⟩ := h; exact below_grow w q os

theorem grew_refl (w : World) : Grew w w := ⟨0, #[], by rw [Sort.grow_empty]; rfl⟩

theorem grew_alloc (w : World) (o : Obj) (s : Nat) : Grew w ((w.alloc o).drewN s) := ⟨s, #[o], by rw [Sort.alloc_eq_grow]; rfl⟩

theorem grew_alloc2 (w : World) (o o' : Obj) (s : Nat) : Grew w (((w.alloc o).alloc o').drewN s) := ⟨s, #[o, o'], by rw [Sort.alloc_eq_grow, Sort.alloc_eq_grow, Sort.grow_grow]; rfl⟩

theorem Grew.trans {a b c : World} (h : Grew a b) (k : Grew b c) : Grew a c := by
  obtain ⟨q, os, rfl⟩ := h
  obtain ⟨q', os', rfl⟩ := k
  exact ⟨q + q', os ++ os', by show Sort.grow (Sort.grow ((a.drewN q).drewN q') os) os' = _; rw [Sort.grow_grow, World.drewN_drewN]⟩

def CmpDone (w w' : World) (v : Int) (e : Ending) : Prop := e = .returned (.int .i64 v) ∧ Grew w w'

/-- three cells each of two entries stay -/
theorem keep33 {w w' : World} {s t : Nat} {x0 x1 x3 y0 y1 y3 : Value} (h : w.cell? ⟨s, 0, none⟩ = some x0 ∧ w.cell? ⟨s, 1, none⟩ = some x1 ∧ w.cell? ⟨s, 3, none⟩ = some x3 ∧ w.cell? ⟨t, 0, none⟩ = some y0 ∧ w.cell? ⟨t, 1, none⟩ = some y1 ∧ w.cell? ⟨t, 3, none⟩ = some y3) (hb : Below w.heap.size w w') :
    w'.cell? ⟨s, 0, none⟩ = some x0 ∧ w'.cell? ⟨s, 1, none⟩ = some x1 ∧ w'.cell? ⟨s, 3, none⟩ = some x3 ∧ w'.cell? ⟨t, 0, none⟩ = some y0 ∧ w'.cell? ⟨t, 1, none⟩ = some y1 ∧ w'.cell? ⟨t, 3, none⟩ = some y3 := by
  have hs := World.block_lt_of_cell? w _ h.1
  have ht := World.block_lt_of_cell? w _ h.2.2.2.1
  have cs : ∀ i, w'.cell? ⟨s, i, none⟩ = w.cell? ⟨s, i, none⟩ := fun i => hb.cell (p := ⟨s, i, none⟩) hs
  have ct : ∀ i, w'.cell? ⟨t, i, none⟩ = w.cell? ⟨t, i, none⟩ := fun i => hb.cell (p := ⟨t, i, none⟩) ht
  rw [cs, cs, cs, ct, ct, ct]
  exact h

theorem grew_three (w : World) (o o' o'' : Obj) : Grew w (((w.alloc o).alloc o').alloc o'').drew := ⟨1, #[o, o', o''], by rw [Sort.alloc_eq_grow, Sort.alloc_eq_grow, Sort.alloc_eq_grow, Sort.grow_grow, Sort.grow_grow]; rfl⟩

theorem three_new (w : World) (x y z : Value) (t : TypeId) : (w.alloc (.cells #[x, y, z] t)).cell? ⟨w.heap.size, 0, none⟩ = some x ∧ (w.alloc (.cells #[x, y, z] t)).cell? ⟨w.heap.size, 1, none⟩ = some y ∧ (w.alloc (.cells #[x, y, z] t)).cell? ⟨w.heap.size, 2, none⟩ = some z := ⟨by simp, by simp, by simp⟩

set_option maxHeartbeats 4000000 in
set_option maxRecDepth 20000 in
theorem place1_any {w : World} {d f : MD} {x e : TE} (hd : d.good w x) (hf : f.good w e) (hk : f.kn = d.kn) (hm : f.mn = d.mn) :
    Calls Try.prog 68 #[d.ev, f.ev] w fun r w' => CmpDone w w' (cmpE x e) r := by
  obtain ⟨dka, dkn, dkc, dma, dmn, dmc, dln, dpr, dac, da, dn, dc⟩ := d
  obtain ⟨fka, fkn, fkc, fma, fmn, fmc, fln, fpr, fac, fa, fn, fc⟩ := f
  obtain ⟨-, h3, hks, -, h4, hms, hpr, -, -, -, -⟩ := hd
  obtain ⟨-, -, gks, -, -, gms, gpr, -, -, -, -⟩ := hf
  simp only at *
  subst hk; subst hm; subst hpr; subst gpr
  have hb0 := bl_alloc (o := EC fka fkn fkc fma fmn fmc fln e.pr fac fa fn fc) (bl_alloc (o := EC dka fkn dkc dma fmn dmc dln x.pr dac da dn dc) (Below.refl w.heap.size w))
  have HK := hid (lex_any dkc fkc h3 ((hks.step hb0).drew) ((gks.step hb0).drew))
  have HM := hid (lex_any dmc fmc h4 ((hms.step hb0).drew) ((gms.step hb0).drew))
  have T1 := (six_new w (.slice dka fkn dkc) (.slice dma fmn dmc) (.int .i64 dln) (.int .i64 x.pr) (.int .i64 dac) (.slice da dn dc) 33).step (bl_alloc (o := EC fka fkn fkc fma fmn fmc fln e.pr fac fa fn fc) (Below.refl _ _))
  have T2 := six_new (w.alloc (EC dka fkn dkc dma fmn dmc dln x.pr dac da dn dc)) (.slice fka fkn fkc) (.slice fma fmn fmc) (.int .i64 fln) (.int .i64 e.pr) (.int .i64 fac) (.slice fa fn fc) 33
  rw [show (w.alloc (EC dka fkn dkc dma fmn dmc dln x.pr dac da dn dc)).heap.size = w.heap.size + 1 from by simp] at T2
  have HGR := hid (fun o => grew_three w (EC dka fkn dkc dma fmn dmc dln x.pr dac da dn dc) (EC fka fkn fkc fma fmn fmc fln e.pr fac fa fn fc) o)
  unfold cmpE
  generalize hu : lexO x.ks e.ks = u at *
  generalize hv : lexO x.ms e.ms = v at *
  generalize ho : (if ord x.pr e.pr ≠ 0 then ord x.pr e.pr else if u ≠ 0 then u else v) = o
  have HO := hid ho
  clear hks hms gks gms hb0 hu hv ho
  go_enter Try.func68, Try.ntmps68
  go_wp2
  generalize (w.alloc (EC dka fkn dkc dma fmn dmc dln x.pr dac da dn dc)).alloc (EC fka fkn fkc fma fmn fmc fln e.pr fac fa fn fc) = w0 at *
  obtain ⟨k0, k1, -, k3, -, -, -, -, -, -, -, -⟩ := T1
  obtain ⟨l0, l1, -, l3, -, -, -, -, -, -, -, -⟩ := T2
  go_region_held3 (fun w' => w'.cell? ⟨w.heap.size, 0, none⟩ = some (.slice dka fkn dkc) ∧ w'.cell? ⟨w.heap.size, 1, none⟩ = some (.slice dma fmn dmc) ∧ w'.cell? ⟨w.heap.size, 3, none⟩ = some (.int .i64 x.pr) ∧ w'.cell? ⟨w.heap.size + 1, 0, none⟩ = some (.slice fka fkn fkc) ∧ w'.cell? ⟨w.heap.size + 1, 1, none⟩ = some (.slice fma fmn fmc) ∧ w'.cell? ⟨w.heap.size + 1, 3, none⟩ = some (.int .i64 e.pr))
    (first
      | go_keep
      | (go_split_ands
         first
         | exact ⟨by assumption, by assumption, by assumption, by assumption, by assumption, by assumption⟩
         | exact keep33 ⟨by assumption, by assumption, by assumption, by assumption, by assumption, by assumption⟩ (bl_alloc (Below.refl _ _))))
    (first
      | (go_at_call 70; refine (cmpI_any _ _ _).mono ?_; rintro e w1 ⟨rfl, rfl⟩)
      | (go_at_call 71; with_reducible refine HK.out.mono ?_; rintro e w1 ⟨rfl, rfl⟩)
      | (go_at_call 71; with_reducible refine HM.out.mono ?_; rintro e w1 ⟨rfl, rfl⟩)
      | (go_at_call 69; refine (or_any o HO.out (w := (w0.alloc (.cells #[.int .i64 (ord x.pr e.pr), .int .i64 u, .int .i64 v] 3)).drew) (three_new w0 _ _ _ _).1 (three_new w0 _ _ _ _).2.1 (three_new w0 _ _ _ _).2.2).mono ?_; rintro e w1 ⟨rfl, rfl⟩))
  all_goals
    go_wp2
    go_ret
    exact ⟨rfl, HGR.out _⟩
end Go.Proofs.Ytlnkfgdepddmlac
