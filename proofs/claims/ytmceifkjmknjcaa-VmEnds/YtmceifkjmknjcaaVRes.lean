/- (*machine).result. -/
import Derived.Test.YtmceifkjmknjcaaVMade
import Derived.Test.YtmceifkjmknjcaaVSend
namespace Go.Proofs.Ytmceifkjmknjcaa
open Go.RowKit

/-- a result as it is told: its port, its bytes -/
def ResV (port : Int) (out : List Int) (v : Value) (w : World) : Prop := ∃ a c, v = .agg #[.int .i64 port, .slice a out.length c] ∧ Has .u8 w a out.length out ∧ (a = none → out = [] ∧ c = 0) ∧ out.length ≤ c

theorem ResV.step {port : Int} {out : List Int} {v : Value} {w w' : World} (h : ResV port out v w) (hb : Below w.heap.size w w') : ResV port out v w' := by
  obtain ⟨a, c, e, h1, h2⟩ := h
  exact ⟨a, c, e, h1.step hb, h2⟩

theorem vlow16 (n : Nat) (hn : n < 18446744073709551616) : bits .and .u64 (n : Int) 65535 = ((n % 65536 : Nat) : Int) := by
  have := u64_and_nat n 65535 hn (by decide)
  rw [show ((65535 : Nat) : Int) = 65535 from rfl] at this
  rw [this]
  congr 1
  exact Nat.and_two_pow_sub_one_eq_mod n 16

theorem MAt.step_drew {W : World} {b : Nat} {k : MK} {m : MD} {w : World} (h : MAt W b k m w) : MAt W b k m w.drew := h.step (Below.refl _ _).drew

theorem own_res {w : World} {B : Nat} {v : Value} {out : List Int} (h : w.ownsRow B 5 1 v out.length (BB out)) (hb : GByt out) : ∃ a c, v = .slice a out.length c ∧ Has .u8 w a out.length out ∧ (a = none → out = [] ∧ c = 0) ∧ out.length ≤ c := by
  obtain ⟨a, c, rfl, hh⟩ := has_of_owns8 h (gbytes_byt hb)
  refine ⟨a, c, rfl, hh, ?_, ?_⟩
  · rintro rfl
    rcases h.2 with ⟨e, e2⟩ | ⟨g, cap, cur, e, _⟩
    · simp only [Value.slice.injEq] at e
      exact ⟨List.eq_nil_of_length_eq_zero e2, e.2.2⟩
    · simp at e
  · rcases h.2 with ⟨e, e2⟩ | ⟨g, cap, cur, e, _, _, h1, _⟩
    · omega
    · simp only [Value.slice.injEq] at e
      omega

set_option maxHeartbeats 4000000 in
set_option maxRecDepth 20000 in
theorem vresult {W : World} {b : Nat} {k : MK} {m : MD} {w : World} (h : MAt W b k m w) (x : InsD) (hr : 0 ≤ x.r ∧ x.r < 10) (hop : x.op = 16 ∨ x.op = 17) :
    Calls Try.prog 15 #[mptr b, x.v] w fun e w' => ∃ v, e = .returned v ∧ ResV (if x.op = 17 then -1 else ((m.rn x.r.toNat % 65536 : Nat) : Int)) (if x.op = 17 then [] else m.out) v w' ∧ Below w.heap.size w w' := by
  obtain ⟨op, r, s, kk, tt, n⟩ := x
  dsimp only at hr hop
  obtain ⟨r, rfl⟩ : ∃ i : Nat, r = i := ⟨r.toNat, by omega⟩
  dsimp only
  rw [Int.toNat_natCast]
  dsimp only [InsD.v]
  rcases hop with rfl | rfl
  · rw [if_neg (by decide), if_neg (by decide)]
    obtain ⟨W1, hW1⟩ : ∃ W1, W1 = (w.alloc (.cells #[.int .i64 16, .int .i64 (r : Int), .int .i64 s, .int .i64 kk, .int .i64 tt, .int .u64 n] 40)).alloc (.cells #[.int .i64 0, .slice none 0 0] 30) := ⟨_, rfl⟩
    obtain ⟨ib, hib⟩ : ∃ b, b = w.heap.size := ⟨_, rfl⟩
    obtain ⟨rb, hrb⟩ : ∃ b, b = w.heap.size + 1 := ⟨_, rfl⟩
    have b1 : Below w.heap.size w W1 := by rw [hW1]; exact bl_alloc (bl_alloc (Below.refl _ _))
    have IB : IBox ⟨16, r, s, kk, tt, n⟩ W1 ib := by rw [hW1, hib]; exact (ibox_new ⟨16, r, s, kk, tt, n⟩ w).step (bl_alloc (Below.refl _ _))
    have k0 : W1.cell? ⟨rb, 0, none⟩ = some (.int .i64 0) := by rw [hW1, hrb]; simp
    have k1 : W1.cell? ⟨rb, 1, none⟩ = some (.slice none 0 0) := by rw [hW1, hrb]; simp
    have f0 : W1.frozen? ⟨rb, 0, none⟩ = false := by rw [hW1, hrb]; simp
    have f1 : W1.frozen? ⟨rb, 1, none⟩ = false := by rw [hW1, hrb]; simp
    have hbl := (h.step b1).lt
    have hne : ib ≠ rb := by omega
    have hne2 : b ≠ rb := by have := h.lt; omega
    obtain ⟨v, hv, hown⟩ := (h.step b1).ow
    obtain ⟨a, c, rfl, hh, hnil, hcap⟩ := own_res hown h.byt
    have HRG := hid (vreg (h.step b1).step_drew (r := r) (by omega))
    have hil : ib < W1.heap.size := World.block_lt_of_cell? _ _ IB.c0
    have hrl : rb < W1.heap.size := World.block_lt_of_cell? _ _ k0
    have hlow := vlow16 (m.rn r) (h.ok.1 r)
    have hwi := gwrap_i (((m.rn r % 65536 : Nat)) : Int) (by omega) (by omega)
    have hge : w.heap.size ≤ rb := by omega
    have HD : Hid (∃ v, Ending.returned (.agg #[.int .i64 ((m.rn r % 65536 : Nat) : Int), .slice a m.out.length c]) = .returned v ∧ ResV ((m.rn r % 65536 : Nat) : Int) m.out v ((W1.setCell ⟨rb, 0, none⟩ (.int .i64 ((m.rn r % 65536 : Nat) : Int))).setCell ⟨rb, 1, none⟩ (.slice a m.out.length c)).drew ∧ Below w.heap.size w ((W1.setCell ⟨rb, 0, none⟩ (.int .i64 ((m.rn r % 65536 : Nat) : Int))).setCell ⟨rb, 1, none⟩ (.slice a m.out.length c)).drew) := by
      have hkeep : Has .u8 ((W1.setCell ⟨rb, 0, none⟩ (.int .i64 ((m.rn r % 65536 : Nat) : Int))).setCell ⟨rb, 1, none⟩ (.slice a m.out.length c)) a m.out.length m.out := by
        refine ⟨hh.1, hh.2.1, ?_⟩
        rcases hh.2.2 with e | ⟨g, off, e, hg, hcs⟩
        · exact .inl e
        · refine .inr ⟨g, off, e, by simp only [World.size_setCell]; exact hg, fun i hi => ?_⟩
          have hgr : g ≠ rb := fun er => by
            have h0 := hcs 0 (by omega)
            rw [er] at h0
            have : W1.heap[rb]? = some (.cells #[.int .i64 0, .slice none 0 0] 30 (0, 0)) := by
              rw [hW1, hrb]
              have := heap_alloc_new (w.alloc (.cells #[.int .i64 16, .int .i64 (r : Int), .int .i64 s, .int .i64 kk, .int .i64 tt, .int .u64 n] 40)) (.cells #[.int .i64 0, .slice none 0 0] 30)
              simpa using this
            simp only [World.cell?, this] at h0
            match hq : off + 0 with
            | 0 => rw [hq] at h0; simp at h0
            | 1 => rw [hq] at h0; simp at h0
            | j + 2 => rw [hq] at h0; simp at h0
          rw [World.cell?_setCell_far _ _ _ _ (by show rb ≠ g; exact fun e => hgr e.symm), World.cell?_setCell_far _ _ _ _ (by show rb ≠ g; exact fun e => hgr e.symm)]
          exact hcs i hi
      exact ⟨_, rfl, ⟨a, c, rfl, hkeep.step (Below.refl _ _).drew, hnil, hcap⟩, ((b1.setCell (p := ⟨rb, 0, none⟩) hge _).setCell (p := ⟨rb, 1, none⟩) hge _).drew⟩
    generalize hX : (m.rn r % 65536 : Nat) = X at *
    generalize hY : m.rn r = Y at *
    obtain ⟨i0, i1, i2, i3, i4, i5⟩ := IB
    dsimp only at i0 i1
    have EW := hid hW1
    have EI := hid hib
    have ER := hid hrb
    generalize m.out.length = OL at *
    clear hX hY h hown hh hnil hcap hW1 hib hrb i2 i3 i4 i5 b1 hge
    go_enter Try.func15, Try.ntmps15
    go_upto_region 1 with fail
    rw [← EW.out, ← ER.out, ← EI.out]
    clear EW EI ER
    go_wp2_with fail
    go_region_with (go_at_call 26; refine HRG.out.mono ?_; rintro e wx ⟨rfl, rfl⟩)
    all_goals
      go_wp2
      exact bodyPost_ret (v := .agg #[.int .i64 (X : Int), .slice a OL c]) (by simp [results, Try.results15, go_sem, *]) rfl HD.out
  · rw [if_pos rfl, if_pos rfl]
    go_enter Try.func15, Try.ntmps15
    go_wp2
    exact bodyPost_ret (v := .agg #[.int .i64 (-1), .slice none 0 0]) (by simp [results, Try.results15, go_sem, *]) rfl ⟨_, rfl, ⟨none, 0, rfl, has_nil _ _, fun _ => ⟨rfl, rfl⟩, Nat.le_refl _⟩, bl_alloc (bl_alloc (Below.refl _ _))⟩
end Go.Proofs.Ytmceifkjmknjcaa
