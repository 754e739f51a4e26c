/- (*machine).load. -/
import Derived.Test.YtmceifkjmknjcaaVMade
import Derived.Test.YtmceifkjmknjcaaVSend
namespace Go.Proofs.Ytmceifkjmknjcaa
open Go.RowKit

/-- the number of bytes, the first one the uppermost -/
def vnum (l : List Int) : Nat := l.foldl (fun a x => a * 256 + x.toNat) 0

theorem vnum_more (l : List Int) (x : Int) : vnum (l ++ [x]) = vnum l * 256 + x.toNat := by simp [vnum, List.foldl_append]

theorem vfold_lt : ∀ (l : List Int) (a n : Nat), GByt l → a < 256 ^ n → l.foldl (fun a x => a * 256 + x.toNat) a < 256 ^ (n + l.length)
  | [], a, n, _, ha => by simpa using ha
  | x :: l, a, n, h, ha => by
    have h2 := h x (by simp)
    have := vfold_lt l (a * 256 + x.toNat) (n + 1) (fun y hy => h y (by simp [hy])) (by rw [Nat.pow_succ]; omega)
    rw [List.foldl_cons, List.length_cons, show n + (l.length + 1) = n + 1 + l.length by omega]
    exact this

theorem vnum_lt (l : List Int) (h : GByt l) : vnum l < 256 ^ l.length := by
  have := vfold_lt l 0 0 h (by decide)
  rwa [Nat.zero_add] at this

theorem vshl_or (a x : Nat) (ha : a < 72057594037927936) (hx : x < 256) : bits .or .u64 ((a : Int) * 256) (x : Int) = ((a * 256 + x : Nat) : Int) := by
  have e : (a : Int) * 256 = ((a * 256 : Nat) : Int) := by omega
  rw [e, u64_or_nat _ _ (by omega) (by omega)]
  have := Nat.two_pow_add_eq_or_of_lt (i := 8) (b := x) (by omega) a
  have h2 : (2 : Nat) ^ 8 * a = a * 256 := by omega
  rw [h2] at this
  rw [this]

/-- what a load makes: the packet's K bytes from f on -/
def vloadL (k : MK) (f K : Nat) : List Int := (k.zs.drop f).take K

set_option maxHeartbeats 4000000 in
set_option maxRecDepth 20000 in
theorem vload {W : World} {b : Nat} {k : MK} {m : MD} {w : World} (h : MAt W b k m w) (hk : Has .u8 W k.pk.a k.pk.n k.zs) (hp : k.pk.n ≤ 600) (hc : k.pk.n ≤ k.pk.c) (x : InsD) (hr : 0 ≤ x.r ∧ x.r < 10) (hs : 0 ≤ x.s ∧ x.s < 10) (hn : 0 ≤ x.n ∧ x.n ≤ 600) (hkk : 1 ≤ x.k ∧ x.k ≤ 8) :
    Calls Try.prog 23 #[mptr b, x.v] w (MDone W b k (if roomB k.pk.n (m.rn x.s.toNat) (x.n.toNat + x.k.toNat) = true then m.setR x.r.toNat (vnum (vloadL k (m.rn x.s.toNat + x.n.toNat) x.k.toNat)) else m) w (.int .i64 (if roomB k.pk.n (m.rn x.s.toNat) (x.n.toNat + x.k.toNat) = true then 0 else 16))) := by
  obtain ⟨op, r, s, kk, tt, n⟩ := x
  dsimp only at hr hs hn hkk
  obtain ⟨r, rfl⟩ : ∃ i : Nat, r = i := ⟨r.toNat, by omega⟩
  obtain ⟨s, rfl⟩ : ∃ i : Nat, s = i := ⟨s.toNat, by omega⟩
  obtain ⟨n, rfl⟩ : ∃ i : Nat, n = i := ⟨n.toNat, by omega⟩
  obtain ⟨kk, rfl⟩ : ∃ i : Nat, kk = i := ⟨kk.toNat, by omega⟩
  dsimp only
  rw [Int.toNat_natCast, Int.toNat_natCast, Int.toNat_natCast, Int.toNat_natCast]
  obtain ⟨W1, hW1⟩ : ∃ W1, W1 = w.alloc (.cells #[.int .i64 op, .int .i64 (r : Int), .int .i64 (s : Int), .int .i64 (kk : Int), .int .i64 tt, .int .u64 (n : Int)] 40) := ⟨_, rfl⟩
  obtain ⟨ib, hib⟩ : ∃ b, b = w.heap.size := ⟨_, rfl⟩
  have b1 : Below w.heap.size w W1 := by rw [hW1]; exact bl_alloc (Below.refl _ _)
  have IB : IBox ⟨op, r, s, kk, tt, n⟩ W1 ib := by rw [hW1, hib]; exact ibox_new ⟨op, r, s, kk, tt, n⟩ w
  have h1 := h.step b1
  have HR : Hid (∀ p : BelowBy W1, Calls Try.prog 26 #[mptr b, .int .i64 (s : Int)] p.to fun e w'' => e = .returned (.int .u64 (m.rn s : Int)) ∧ w'' = p.to) := fun p => vreg (h1.step p.h) (by omega)
  have hwk := gwrap_u (kk : Int) (by omega) (by omega)
  have hws : IntKind.u64.wrap ((n : Int) + (kk : Int)) = ((n + kk : Nat) : Int) := by rw [gwrap_u _ (by omega) (by omega)]; omega
  have hrs := h.ok.1 s
  have HH : Hid (∀ w', Below W1.heap.size W1 w' → Calls Try.prog 28 #[mptr b, .int .u64 (m.rn s : Int), .int .u64 ((n + kk : Nat) : Int)] w' fun e w'' => e = .returned (.bool (roomB k.pk.n (m.rn s) (n + kk))) ∧ w'' = w') := fun w' hb => vroom (h1.step hb) hp _ _ hrs
  have HKW := hid (hk.step h1.bel)
  have HKL := hid hk.1
  have HBY : Hid (GByt k.zs) := fun x hx => by
    have := bounds_u8 (hk.2.1 x hx)
    omega
  have HM := hid h1
  have HB := hid b1
  have HIB := hid IB
  have EW := hid hW1
  have EB := hid hib
  obtain ⟨i0, i1, i2, i3, i4, i5⟩ := IB
  dsimp only at i0 i1 i2 i3 i4 i5
  have i2' := cell_by i2
  have i3' := cell_by i3
  have hil : ib < W1.heap.size := World.block_lt_of_cell? _ _ i0
  dsimp only [InsD.v]
  generalize hf : m.rn s = f at *
  obtain ⟨nk, hnk⟩ : ∃ q, q = n + kk := ⟨_, rfl⟩
  rw [← hnk] at hws HH ⊢
  have HNK := hid hnk
  clear h h1 b1 hW1 hib hk hf i0 i1 i4 hnk
  haveI inhB : ∀ w : World, Inhabited (BelowBy w) := fun w => ⟨⟨w, Below.refl _ _⟩⟩
  cases hR : roomB k.pk.n f nk with
  | false =>
    rw [hR] at HH
    rw [if_neg (by decide), if_neg (by decide)]
    go_enter Try.func23, Try.ntmps23
    go_upto_region 1 with fail
    rw [← EW.out, ← EB.out]
    clear EW EB
    go_wp2_with fail
    refine wp_region_quiet_below (by kernel_rfl) (by kernel_rfl) ?_
    repeat (go_big_quiet_step (first | (go_at_call 26; with_reducible exact calls_same _ (HR.out _))))
    refine wpQuiet_nil ?_
    intro wq hw'
    obtain ⟨⟨_, hwq⟩, hw''⟩ := hw'
    subst hw''
    have i5q := cell_keep i5 hwq
    have hilq : ib < wq.heap.size := World.block_lt_of_cell? _ _ i5q
    have HH2 := hid (HH.out _ hwq)
    have HD : Hid (MDone W b k m w (.int .i64 16) (.returned (.int .i64 16)) wq) := ⟨rfl, HM.out.step hwq, GFram.below (bl_step HB.out hwq)⟩
    clear HB hwq HR i2' i3' i5 HM HKW HIB
    go_wp2_with fail
    refine HH2.out.mono ?_
    rintro e w3 ⟨rfl, rfl⟩
    go_wp2
    go_ret
    exact HD.out
  | true =>
    rw [hR] at HH
    rw [if_pos rfl, if_pos rfl]
    have hroom : f ≤ k.pk.n ∧ nk ≤ k.pk.n - f := by
      unfold roomB at hR
      simpa using hR
    have hnk := HNK.out
    obtain ⟨u, hu⟩ : ∃ u, u = f + n := ⟨_, rfl⟩
    obtain ⟨v, hv⟩ : ∃ v, v = u + kk := ⟨_, rfl⟩
    have hwu : IntKind.u64.wrap ((f : Int) + (n : Int)) = (u : Int) := by rw [gwrap_u _ (by omega) (by omega)]; omega
    have hwv : IntKind.u64.wrap ((u : Int) + (kk : Int)) = (v : Int) := by rw [gwrap_u _ (by omega) (by omega)]; omega
    obtain ⟨g, off, ea, hgl, hgc⟩ := HKW.out.some (by omega)
    obtain ⟨⟨pa, pn, pc⟩, hpk⟩ : ∃ q, q = k.pk := ⟨_, rfl⟩
    have HPK := hid hpk
    have hc2 := HM.out.c2
    rw [← hpk] at ea hgc hroom hc hp hc2
    dsimp only at ea hgc hroom hc hp hc2
    subst ea
    have hvn : v ≤ pn := by omega
    have huv : (u : Int) ≤ (v : Int) := by omega
    have hvc : (v : Int) ≤ (pc : Int) := by omega
    have hcu : ¬ pc = u := by omega
    have hvu : v - u = kk := by omega
    rw [← hu]
    have HGC := hid hgc
    have HU := hid hu
    have HVE := hid hv
    have HROOM := hid hroom
    have HC := hid hc
    have HVU := hid hvu
    have HVN := hid hvn
    clear hu hv hroom hc hvu hnk hvn hgc
    go_enter Try.func23, Try.ntmps23
    go_upto_region 1 with fail
    rw [← EW.out, ← EB.out]
    clear EW EB
    go_wp2_with fail
    refine wp_region_quiet_below (by kernel_rfl) (by kernel_rfl) ?_
    repeat (go_big_quiet_step (first | (go_at_call 26; with_reducible exact calls_same _ (HR.out _))))
    refine wpQuiet_nil ?_
    intro wq hw'
    obtain ⟨⟨_, hwq⟩, hw''⟩ := hw'
    subst hw''
    have i5q := cell_keep i5 hwq
    have hilq : ib < wq.heap.size := World.block_lt_of_cell? _ _ i5q
    have c2q := cell_keep hc2 hwq
    have hbq : b < wq.heap.size := World.block_lt_of_cell? _ _ c2q
    have HH2 := hid (HH.out _ hwq)
    have HQ := hid hwq
    clear hwq HR HH i2' i3' i5 HKW hR i2 i3 hil hc2
    go_wp2_with fail
    refine HH2.out.mono ?_
    rintro e w3 ⟨rfl, rfl⟩
    clear HH2
    go_wp2
    rw [HVU.out]
    clear i5q hws hwu hwv huv hvc hcu
    have HL : Hid (∀ i, i < kk → ∃ x : Nat, x < 256 ∧ w3.cell? ⟨g, off + u + i, none⟩ = some (.int .u8 (x : Int)) ∧ vnum ((vloadL k u kk).take (i + 1)) = vnum ((vloadL k u kk).take i) * 256 + x ∧ vnum ((vloadL k u kk).take i) < 72057594037927936) := by
      intro i hi
      have e1 := HU.out
      have e2 := HVE.out
      have e3 := HVN.out
      have e4 := HNK.out
      have hzl : k.zs.length = pn := by
        have := HKL.out
        rw [← HPK.out] at this
        exact this
      have hiz : u + i < k.zs.length := by omega
      have hby := HBY.out k.zs[u + i] (List.getElem_mem hiz)
      have hgd : k.zs.getD (u + i) 0 = k.zs[u + i] := by simp [List.getD_eq_getElem?_getD, List.getElem?_eq_getElem hiz]
      have ht : (vloadL k u kk).take (i + 1) = (vloadL k u kk).take i ++ [k.zs[u + i]] := by
        unfold vloadL
        rw [List.take_take, List.take_take, Nat.min_eq_left (by omega), Nat.min_eq_left (by omega), List.take_add_one, List.getElem?_drop, List.getElem?_eq_getElem hiz]
        rfl
      refine ⟨k.zs[u + i].toNat, by omega, ?_, by rw [ht, vnum_more], ?_⟩
      · have := cell_keep (HGC.out (u + i) (by omega)) HQ.out
        rw [hgd] at this
        rw [show off + u + i = off + (u + i) by omega, this]
        congr 2
        omega
      · have h1 := vnum_lt ((vloadL k u kk).take i) (fun y hy => HBY.out y (List.mem_of_mem_drop (List.mem_of_mem_take (List.mem_of_mem_take hy))))
        have h2 : ((vloadL k u kk).take i).length ≤ 7 := by rw [List.length_take]; omega
        exact Nat.lt_of_lt_of_le h1 (Nat.pow_le_pow_right (by decide) h2)
    go_loopw [39, 7, 9] (fun q nv _ wr => ∃ i : Nat, i ≤ kk ∧ q = .int .i64 i ∧ nv = .int .u64 (vnum ((vloadL k u kk).take i) : Int) ∧ wr = w3) (fun q _ _ _ => kk - (intOf q).toNat)
    case atStart => exact ⟨0, Nat.zero_le _, rfl, rfl, rfl⟩
    case round =>
      obtain ⟨i, hi, rfl, rfl, rfl⟩ := hrel
      by_cases hlt : i < kk
      · have hki : (i : Int) < (kk : Int) := by omega
        obtain ⟨x, hx, cx, ev, hv⟩ := HL.out i hlt
        have hgx : g < wr.heap.size := World.block_lt_of_cell? _ _ cx
        have EV := hid ev
        clear ev
        generalize vnum ((vloadL k u kk).take i) = A at *
        go_wp2

        go_roundw
        case rel => exact ⟨i + 1, by omega, by go_num, by rw [EV.out]; exact vint (vshl_or A x hv hx), trivial⟩
        case measure => simp [intOf]; omega
      · have hki : ¬ (i : Int) < (kk : Int) := by omega
        obtain rfl : i = kk := by omega
        have eL : (vloadL k u i).take i = vloadL k u i := List.take_of_length_le (by unfold vloadL; rw [List.length_take]; omega)
        rw [eL]
        have hvl : vnum (vloadL k u i) < 18446744073709551616 := by
          have h1 := vnum_lt (vloadL k u i) (fun y hy => HBY.out y (List.mem_of_mem_drop (List.mem_of_mem_take hy)))
          have h2 : (vloadL k u i).length ≤ 8 := by unfold vloadL; rw [List.length_take]; omega
          exact Nat.lt_of_lt_of_le h1 (Nat.pow_le_pow_right (by decide) h2)
        have hM := HM.out.step HQ.out
        have HD : Hid (∀ o, MDone W b k (m.setR r (vnum (vloadL k u i))) w (.int .i64 0) (.returned (.int .i64 0)) (((wr.setCell ⟨b, r * 2, none⟩ (.int .u64 (vnum (vloadL k u i) : Int))).setCell ⟨b, r * 2 + 1, none⟩ (.bool true)).alloc o).drew) := fun o => ⟨rfl, (hM.putR (by omega) hvl).step (bl_alloc (Below.refl _ _)).drew, (GFram.below (bl_step HB.out HQ.out)).trans (((GFram.put _ _).trans (GFram.put _ _)).trans (GFram.below (bl_alloc (Below.refl _ _)).drew))⟩
        have r0 := hM.rn r (by omega)
        have r1 := hM.rs r (by omega)
        have z0 := hM.fz (r * 2)
        have z1 := hM.fz (r * 2 + 1)
        have hbl := hM.lt
        have j1 := (HIB.out.step HQ.out).c1
        dsimp only at j1
        have hil2 : ib < wr.heap.size := World.block_lt_of_cell? _ _ j1
        have hri : (r : Int) < 10 := by omega
        have HFL := hid (fun n w => vfilled n w)
        generalize vnum (vloadL k u i) = V at *
        clear HL hM HM HQ hvl HIB HGC HBY
        go_wp2_with fail
        go_region_with (go_at_call 21; refine (HFL.out _ _).mono ?_; rintro e wx ⟨rfl, rfl⟩)
        all_goals
          go_wp2
          go_ret
          exact HD.out _
end Go.Proofs.Ytmceifkjmknjcaa
