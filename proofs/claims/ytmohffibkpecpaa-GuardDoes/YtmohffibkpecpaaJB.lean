/- Texts of one chain, joined: HKn4, HKn5, HMeet. -/
import Derived.Test.YtmohffibkpecpaaJA
import Derived.Test.YtmohffibkpecpaaJ1
namespace Go.Proofs.Ytmohffibkpecpaa
open Go.RowKit

/-- what is changed in a Knows of its own -/
def KDone (W0 : World) (S : Nat) (t : Bool) (q : KV) (s : SD) (e : Ending) (w' : World) : Prop := e = .returned (KV.v t q) ∧ (∃ N, KOwn W0.heap.size S q s N w') ∧ Below W0.heap.size W0 w'

/-- the world while some stores -/
def SomeJ (W0 : World) (S : Nat) (q : KV) (s : SD) (N : Nat → Nat) (r kb rb : Nat) (t : Bool) (g1 g2 g3 g4 : Nat) (done : Nat → Bool) (w : World) : Prop :=
  BoxC w kb #[.bool t, .slice (some ⟨g1, 0, none⟩) 10 q.st.c, .slice (some ⟨g2, 0, none⟩) 10 q.ju.c, .slice (some ⟨g3, 0, none⟩) 10 q.nu.c, .slice (some ⟨g4, 0, none⟩) 10 q.ro.c, .slice q.sl.a q.sl.n q.sl.c] 54 ∧ BoxC w rb #[.bool false, .slice none 0 0, .slice none 0 0, .slice none 0 0, .slice none 0 0, .slice none 0 0] 54 ∧ Below W0.heap.size W0 w ∧
  KRaw W0.heap.size S q (fun j => if done 13 = true ∧ j = r then true else (s.reg j).set) (fun j => if done 15 = true ∧ j = r then false else (s.reg j).just.isSome) (fun j => if done 17 = true ∧ j = r then 0 else N j) (fun j => if done 19 = true ∧ j = r then -1 else roomZ (s.reg j).room) s.slot w
theorem KRaw.congrN {base S : Nat} {q : KV} {A B A' B' : Nat → Bool} {N N' : Nat → Nat} {Z Z' : Nat → Int} {L L' : Nat → Bool} {w : World} (h : KRaw base S q A B N Z L w) (e1 : ∀ i, A i = A' i) (e2 : ∀ i, B i = B' i) (e0 : ∀ i, N i = N' i) (e3 : ∀ i, Z i = Z' i) (e4 : ∀ i, L i = L' i) : KRaw base S q A' B' N' Z' L' w := by
  obtain rfl : N = N' := funext e0
  exact h.congr e1 e2 e3 e4
/-- a box of a Knows is none of its lists -/
theorem KRaw.off {base S : Nat} {q : KV} {A B : Nat → Bool} {N : Nat → Nat} {Z : Nat → Int} {L : Nat → Bool} {w : World} (h : KRaw base S q A B N Z L w) {rb : Nat} {cs : Array Value} (hb : BoxC w rb cs 54) (o : Nat) (v : Value) : KRaw base S q A B N Z L (w.setCell ⟨rb, o, none⟩ v) := by
  have key : ∀ {T : TypeId} {s : QSl} {n : Nat} {f : Nat → Value}, OwnF w T s n f → T ≠ 54 → OwnF (w.setCell ⟨rb, o, none⟩ v) T s n f := fun {T s n f} hf hT => by
    by_cases h0 : n = 0
    · exact hf.zero h0
    · refine hf.far (fun e => ?_) o v
      obtain ⟨g, _, b, cur, hh⟩ := hf.block (by omega)
      rw [e] at b
      cases b
      have hb' : w.heap[rb]? = some (.cells cs 54 (0, 0)) := hb
      rw [hb'] at hh
      simp only [Option.some.injEq, Obj.cells.injEq] at hh
      exact hT hh.2.1.symm
  exact ⟨key h.st (by decide), key h.ju (by decide), key h.nu (by decide), key h.ro (by decide), key h.sl (by decide), h.a1, h.a2, fun g hg => by rw [World.size_setCell]; exact h.lo g hg⟩

set_option maxHeartbeats 4000000 in
set_option maxRecDepth 20000 in
theorem ksome {W0 w : World} {S : Nat} {t : Bool} {q : KV} {s : SD} {N : Nat → Nat} (h : KOwn W0.heap.size S q s N w) (hb : Below W0.heap.size W0 w) (r : Nat) (hr : r < 10) : Calls Try.prog 29 #[KV.v t q, .int .i64 (r : Int)] w (KDone W0 S t q (s.setR r RD.any)) := by
  obtain ⟨W2, hW2⟩ : ∃ W, W = (w.alloc (.cells #[.bool t, .slice q.st.a q.st.n q.st.c, .slice q.ju.a q.ju.n q.ju.c, .slice q.nu.a q.nu.n q.nu.c, .slice q.ro.a q.ro.n q.ro.c, .slice q.sl.a q.sl.n q.sl.c] 54)).alloc (.cells #[.bool false, .slice none 0 0, .slice none 0 0, .slice none 0 0, .slice none 0 0, .slice none 0 0] 54) := ⟨_, rfl⟩
  obtain ⟨kb, hkb⟩ : ∃ b, b = w.heap.size := ⟨_, rfl⟩
  obtain ⟨rb, hrb⟩ : ∃ b, b = w.heap.size + 1 := ⟨_, rfl⟩
  have b2 : Below w.heap.size w W2 := by rw [hW2]; exact bl_alloc (bl_alloc (Below.refl _ _))
  obtain ⟨g1, g2, g3, g4, k⟩ := h.1.blocks
  have xk : BoxC W2 kb #[.bool t, .slice q.st.a q.st.n q.st.c, .slice q.ju.a q.ju.n q.ju.c, .slice q.nu.a q.nu.n q.nu.c, .slice q.ro.a q.ro.n q.ro.c, .slice q.sl.a q.sl.n q.sl.c] 54 := by
    rw [hW2, hkb]
    exact BoxC.step (boxc_new _ _ _ rfl) (bl_alloc (Below.refl _ _))
  have xr : BoxC W2 rb #[.bool false, .slice none 0 0, .slice none 0 0, .slice none 0 0, .slice none 0 0, .slice none 0 0] 54 := by
    rw [hW2, hrb]
    exact boxc_new _ _ _ (by simp)
  rw [k.e1, k.e2, k.e3, k.e4, k.n1, k.n2, k.n3, k.n4] at xk hW2
  have hgl := (h.1.reg k hr)
  have hne : ¬ g1 = rb ∧ ¬ g2 = rb ∧ ¬ g3 = rb ∧ ¬ g4 = rb ∧ ¬ g1 = kb ∧ ¬ g2 = kb ∧ ¬ g3 = kb ∧ ¬ g4 = kb := by
    have := hgl.l1
    have := hgl.l2
    have := hgl.l3
    have := hgl.l4
    omega
  have h2 := h.step b2
  have HK2 := hid h2
  have HB2 := hid (bl_step hb b2)
  have HXR := hid xr
  have HKA := hid k
  have HF4 := hid (h2.1.four k)
  have HNE := hid hne
  have HRB : Hid (W0.heap.size ≤ rb) := by have := hb.size; rw [hrb]; show _ ≤ _; omega
  have k1 : W2.cell? ⟨kb, 1, none⟩ = some (.slice (some ⟨g1, 0, none⟩) 10 q.st.c) := xk.cell 1
  have k2 : W2.cell? ⟨kb, 2, none⟩ = some (.slice (some ⟨g2, 0, none⟩) 10 q.ju.c) := xk.cell 2
  have k3 : W2.cell? ⟨kb, 3, none⟩ = some (.slice (some ⟨g3, 0, none⟩) 10 q.nu.c) := xk.cell 3
  have k4 : W2.cell? ⟨kb, 4, none⟩ = some (.slice (some ⟨g4, 0, none⟩) 10 q.ro.c) := xk.cell 4
  have HXK := hid xk
  have hkl := xk.lt
  have hri : (r : Int) < 10 := by omega
  have k1' := cell_by k1
  have k2' := cell_by k2
  have k3' := cell_by k3
  have k4' := cell_by k4
  have EV : Hid (KV.v t q = .agg #[.bool t, .slice (some ⟨g1, 0, none⟩) 10 q.st.c, .slice (some ⟨g2, 0, none⟩) 10 q.ju.c, .slice (some ⟨g3, 0, none⟩) 10 q.nu.c, .slice (some ⟨g4, 0, none⟩) 10 q.ro.c, .slice q.sl.a q.sl.n q.sl.c]) := by
    show KV.v t q = _
    unfold KV.v
    rw [k.e1, k.e2, k.e3, k.e4, k.n1, k.n2, k.n3, k.n4]
  have EW := hid hW2
  have EK := hid hkb
  have ER := hid hrb
  rw [EV.out]
  clear hW2 hkb hrb b2 xk xr h h2 hb hgl hne k
  haveI inhB : ∀ w : World, Inhabited (BelowBy w) := fun w => ⟨⟨w, Below.refl _ _⟩⟩
  go_enter Try.func29, Try.ntmps29
  go_upto_region 1 with fail
  rw [← EW.out, ← ER.out, ← EK.out]
  clear EW ER EK
  refine wp_region_rowsJ [some 5, some 6, some 7, some 8, some 9, some 10, some 11, some 12, some 13, some 14, some 15, some 16, some 17, none, some 18, none, some 19, none, some 20, none] (by kernel_rfl) (by kernel_rfl) (fun d hd => by simp only [List.mem_cons, List.not_mem_nil, or_false, Option.some.injEq, reduceCtorEq, false_or] at hd; show d < 22; omega) (fun i => ([.pointer (some ⟨kb, 1, none⟩), .slice (some ⟨g1, 0, none⟩) 10 q.st.c, .int .i64 (r : Int), .pointer (some ⟨kb, 2, none⟩), .slice (some ⟨g2, 0, none⟩) 10 q.ju.c, .int .i64 (r : Int), .pointer (some ⟨kb, 3, none⟩), .slice (some ⟨g3, 0, none⟩) 10 q.nu.c, .int .i64 (r : Int), .pointer (some ⟨kb, 4, none⟩), .slice (some ⟨g4, 0, none⟩) 10 q.ro.c, .int .i64 (r : Int), .pointer (some ⟨g1, r, none⟩), undef, .pointer (some ⟨g2, r, none⟩), undef, .pointer (some ⟨g3, r, none⟩), undef, .pointer (some ⟨g4, r, none⟩), undef] : List Value).getD i undef) (SomeJ W0 S q s N r kb rb t g1 g2 g3 g4) ⟨HXK.out.step (Below.refl _ _).drew, HXR.out.step (Below.refl _ _).drew, HB2.out.drew, (HK2.out.1.step (Below.refl _ _).drew).congr (fun j => by simp) (fun j => by simp) (fun j => by simp) (fun _ => rfl)⟩ ?_ ?_
  · intro i o hi ho done a1 w1 hj hdi hold hdep
    have t1 : a1.tmps[1]? = some (.int .i64 (r : Int)) := hold 1 (by decide)
    have t2 : a1.tmps[2]? = some (.pointer (some ⟨kb, 0, none⟩)) := hold 2 (by decide)
    obtain ⟨hxk, hxr, hbl, hkr⟩ := hj
    have hrg := hkr.reg HKA.out hr
    have hi : i < 20 := hi
    rcases (show i = 0 ∨ i = 1 ∨ i = 2 ∨ i = 3 ∨ i = 4 ∨ i = 5 ∨ i = 6 ∨ i = 7 ∨ i = 8 ∨ i = 9 ∨ i = 10 ∨ i = 11 ∨ i = 12 ∨ i = 13 ∨ i = 14 ∨ i = 15 ∨ i = 16 ∨ i = 17 ∨ i = 18 ∨ i = 19 by omega) with rfl | rfl | rfl | rfl | rfl | rfl | rfl | rfl | rfl | rfl | rfl | rfl | rfl | rfl | rfl | rfl | rfl | rfl | rfl | rfl
    all_goals
      simp only [List.getElem?_cons_succ, List.getElem?_cons_zero, Option.some.injEq] at ho
      subst ho
    · exact ⟨w1, .inl (by simp [execOp, go_sem, t2]), ⟨hxk, hxr, hbl, hkr⟩⟩
    · have hv : a1.tmps[5]? = some (.pointer (some ⟨kb, 1, none⟩)) := (hdep { on := 0, ground := .data } (by simp) rfl).2 _ rfl
      have hc : w1.cell? ⟨kb, 1, none⟩ = some (.slice (some ⟨g1, 0, none⟩) 10 q.st.c) := hxk.cell 1
      exact ⟨w1, .inl (by simp [execOp, go_sem, hv, hc]), ⟨hxk, hxr, hbl, hkr⟩⟩
    · exact ⟨w1, .inl (by simp [execOp, go_sem, t1]), ⟨hxk, hxr, hbl, hkr⟩⟩
    · exact ⟨w1, .inl (by simp [execOp, go_sem, t2]), ⟨hxk, hxr, hbl, hkr⟩⟩
    · have hv : a1.tmps[8]? = some (.pointer (some ⟨kb, 2, none⟩)) := (hdep { on := 3, ground := .data } (by simp) rfl).2 _ rfl
      have hc : w1.cell? ⟨kb, 2, none⟩ = some (.slice (some ⟨g2, 0, none⟩) 10 q.ju.c) := hxk.cell 2
      exact ⟨w1, .inl (by simp [execOp, go_sem, hv, hc]), ⟨hxk, hxr, hbl, hkr⟩⟩
    · exact ⟨w1, .inl (by simp [execOp, go_sem, t1]), ⟨hxk, hxr, hbl, hkr⟩⟩
    · exact ⟨w1, .inl (by simp [execOp, go_sem, t2]), ⟨hxk, hxr, hbl, hkr⟩⟩
    · have hv : a1.tmps[11]? = some (.pointer (some ⟨kb, 3, none⟩)) := (hdep { on := 6, ground := .data } (by simp) rfl).2 _ rfl
      have hc : w1.cell? ⟨kb, 3, none⟩ = some (.slice (some ⟨g3, 0, none⟩) 10 q.nu.c) := hxk.cell 3
      exact ⟨w1, .inl (by simp [execOp, go_sem, hv, hc]), ⟨hxk, hxr, hbl, hkr⟩⟩
    · exact ⟨w1, .inl (by simp [execOp, go_sem, t1]), ⟨hxk, hxr, hbl, hkr⟩⟩
    · exact ⟨w1, .inl (by simp [execOp, go_sem, t2]), ⟨hxk, hxr, hbl, hkr⟩⟩
    · have hv : a1.tmps[14]? = some (.pointer (some ⟨kb, 4, none⟩)) := (hdep { on := 9, ground := .data } (by simp) rfl).2 _ rfl
      have hc : w1.cell? ⟨kb, 4, none⟩ = some (.slice (some ⟨g4, 0, none⟩) 10 q.ro.c) := hxk.cell 4
      exact ⟨w1, .inl (by simp [execOp, go_sem, hv, hc]), ⟨hxk, hxr, hbl, hkr⟩⟩
    · exact ⟨w1, .inl (by simp [execOp, go_sem, t1]), ⟨hxk, hxr, hbl, hkr⟩⟩
    · have hv : a1.tmps[6]? = some (.slice (some ⟨g1, 0, none⟩) 10 q.st.c) := (hdep { on := 1, ground := .data } (by simp) rfl).2 _ rfl
      have hv2 : a1.tmps[7]? = some (.int .i64 (r : Int)) := (hdep { on := 2, ground := .data } (by simp) rfl).2 _ rfl
      exact ⟨w1, .inl (by simp [execOp, go_sem, hv, hv2, hri]), ⟨hxk, hxr, hbl, hkr⟩⟩
    · have hv : a1.tmps[17]? = some (.pointer (some ⟨g1, r, none⟩)) := (hdep { on := 12, ground := .data } (by simp) rfl).2 _ rfl
      refine ⟨w1.setCell ⟨g1, r, none⟩ (.bool true), .inr ⟨rfl, by simp [execOp, go_sem, hv, hrg.c1, hrg.f1]⟩, hxk.far HNE.out.2.2.2.2.1 _ _, hxr.far HNE.out.1 _ _, hput1 hbl HKA.out.b1 _ _, ?_⟩
      have h0 := hkr.putA HKA.out.e1 hr true
      exact h0.congrN (fun j => by by_cases e : j = r <;> simp [e, hdi]) (fun _ => rfl) (fun _ => rfl) (fun _ => rfl) (fun _ => rfl)
    · have hv : a1.tmps[9]? = some (.slice (some ⟨g2, 0, none⟩) 10 q.ju.c) := (hdep { on := 4, ground := .data } (by simp) rfl).2 _ rfl
      have hv2 : a1.tmps[10]? = some (.int .i64 (r : Int)) := (hdep { on := 5, ground := .data } (by simp) rfl).2 _ rfl
      exact ⟨w1, .inl (by simp [execOp, go_sem, hv, hv2, hri]), ⟨hxk, hxr, hbl, hkr⟩⟩
    · have hv : a1.tmps[18]? = some (.pointer (some ⟨g2, r, none⟩)) := (hdep { on := 14, ground := .data } (by simp) rfl).2 _ rfl
      refine ⟨w1.setCell ⟨g2, r, none⟩ (.bool false), .inr ⟨rfl, by simp [execOp, go_sem, hv, hrg.c2, hrg.f2]⟩, hxk.far HNE.out.2.2.2.2.2.1 _ _, hxr.far HNE.out.2.1 _ _, hput1 hbl HKA.out.b2 _ _, ?_⟩
      have h0 := hkr.putB HKA.out.e2 hr false
      exact h0.congrN (fun _ => rfl) (fun j => by by_cases e : j = r <;> simp [e, hdi]) (fun _ => rfl) (fun _ => rfl) (fun _ => rfl)
    · have hv : a1.tmps[12]? = some (.slice (some ⟨g3, 0, none⟩) 10 q.nu.c) := (hdep { on := 7, ground := .data } (by simp) rfl).2 _ rfl
      have hv2 : a1.tmps[13]? = some (.int .i64 (r : Int)) := (hdep { on := 8, ground := .data } (by simp) rfl).2 _ rfl
      exact ⟨w1, .inl (by simp [execOp, go_sem, hv, hv2, hri]), ⟨hxk, hxr, hbl, hkr⟩⟩
    · have hv : a1.tmps[19]? = some (.pointer (some ⟨g3, r, none⟩)) := (hdep { on := 16, ground := .data } (by simp) rfl).2 _ rfl
      refine ⟨w1.setCell ⟨g3, r, none⟩ (.int .u64 0), .inr ⟨rfl, by simp [execOp, go_sem, hv, hrg.c3, hrg.f3]⟩, hxk.far HNE.out.2.2.2.2.2.2.1 _ _, hxr.far HNE.out.2.2.1 _ _, hput1 hbl HKA.out.b3 _ _, ?_⟩
      have h0 := hkr.putN HKA.out.e3 hr 0
      exact h0.congrN (fun _ => rfl) (fun _ => rfl) (fun j => by by_cases e : j = r <;> simp [e, hdi]) (fun _ => rfl) (fun _ => rfl)
    · have hv : a1.tmps[15]? = some (.slice (some ⟨g4, 0, none⟩) 10 q.ro.c) := (hdep { on := 10, ground := .data } (by simp) rfl).2 _ rfl
      have hv2 : a1.tmps[16]? = some (.int .i64 (r : Int)) := (hdep { on := 11, ground := .data } (by simp) rfl).2 _ rfl
      exact ⟨w1, .inl (by simp [execOp, go_sem, hv, hv2, hri]), ⟨hxk, hxr, hbl, hkr⟩⟩
    · have hv : a1.tmps[20]? = some (.pointer (some ⟨g4, r, none⟩)) := (hdep { on := 18, ground := .data } (by simp) rfl).2 _ rfl
      refine ⟨w1.setCell ⟨g4, r, none⟩ (.int .i64 (-1)), .inr ⟨rfl, by simp [execOp, go_sem, hv, hrg.c4, hrg.f4]⟩, hxk.far HNE.out.2.2.2.2.2.2.2 _ _, hxr.far HNE.out.2.2.2.1 _ _, hput1 hbl HKA.out.b4 _ _, ?_⟩
      have h0 := hkr.putZ HKA.out.e4 hr (-1)
      exact h0.congrN (fun _ => rfl) (fun _ => rfl) (fun _ => rfl) (fun j => by by_cases e : j = r <;> simp [e, hdi]) (fun _ => rfl)
  · intro wz hz
    obtain ⟨hxk, hxr, hbl, hkr⟩ := hz
    simp only [putsO, Act.put, List.length_cons, List.length_nil, List.getD_cons_zero, List.getD_cons_succ, List.setIfInBounds_toArray, List.set_cons_succ, List.set_cons_zero]
    have hkz : KRaw W0.heap.size S q (fun j => if j = r then true else (s.reg j).set) (fun j => if j = r then false else (s.reg j).just.isSome) (fun j => if j = r then 0 else N j) (fun j => if j = r then -1 else roomZ (s.reg j).room) s.slot wz := hkr.congrN (fun j => by simp) (fun j => by simp) (fun j => by simp) (fun j => by simp) (fun _ => rfl)
    have HE : Hid (∀ v0 v1 v2 v3 v4 v5, KDone W0 S t q (s.setR r RD.any) (.returned (KV.v t q)) ((((((wz.setCell ⟨rb, 0, none⟩ v0).setCell ⟨rb, 1, none⟩ v1).setCell ⟨rb, 2, none⟩ v2).setCell ⟨rb, 3, none⟩ v3).setCell ⟨rb, 4, none⟩ v4).setCell ⟨rb, 5, none⟩ v5)) := fun v0 v1 v2 v3 v4 v5 => by
      refine ⟨rfl, ⟨fun j => if j = r then 0 else N j, ?_, fun j hj => ?_⟩, hput1 (hput1 (hput1 (hput1 (hput1 (hput1 hbl HRB.out _ _) HRB.out _ _) HRB.out _ _) HRB.out _ _) HRB.out _ _) HRB.out _ _⟩
      · have hfar : ∀ {w' : World}, KRaw W0.heap.size S q (fun j => if j = r then true else (s.reg j).set) (fun j => if j = r then false else (s.reg j).just.isSome) (fun j => if j = r then 0 else N j) (fun j => if j = r then -1 else roomZ (s.reg j).room) s.slot w' → BoxC w' rb #[] 54 ∨ True → ∀ o v, (∃ cs, BoxC w' rb cs 54) → KRaw W0.heap.size S q (fun j => if j = r then true else (s.reg j).set) (fun j => if j = r then false else (s.reg j).just.isSome) (fun j => if j = r then 0 else N j) (fun j => if j = r then -1 else roomZ (s.reg j).room) s.slot (w'.setCell ⟨rb, o, none⟩ v) := fun hk _ o v ⟨cs, hc⟩ => hk.off hc o v
        have b0 : ∃ cs, BoxC wz rb cs 54 := ⟨_, hxr⟩
        have bs : ∀ {w' : World} (o : Nat) (v : Value), (∃ cs, BoxC w' rb cs 54) → ∃ cs, BoxC (w'.setCell ⟨rb, o, none⟩ v) rb cs 54 := fun o v ⟨cs, h⟩ => ⟨_, h.put o v⟩
        have h6 := hfar (hfar (hfar (hfar (hfar (hfar hkz (.inr trivial) 0 v0 b0) (.inr trivial) 1 v1 (bs _ _ b0)) (.inr trivial) 2 v2 (bs _ _ (bs _ _ b0))) (.inr trivial) 3 v3 (bs _ _ (bs _ _ (bs _ _ b0)))) (.inr trivial) 4 v4 (bs _ _ (bs _ _ (bs _ _ (bs _ _ b0))))) (.inr trivial) 5 v5 (bs _ _ (bs _ _ (bs _ _ (bs _ _ (bs _ _ b0)))))
        refine h6.congr (fun j => ?_) (fun j => ?_) (fun j => ?_) (fun _ => rfl)
        · show (if j = r then true else (s.reg j).set) = (if j = r then RD.any else s.reg j).set
          split <;> rfl
        · show (if j = r then false else (s.reg j).just.isSome) = (if j = r then RD.any else s.reg j).just.isSome
          split <;> rfl
        · show (if j = r then -1 else roomZ (s.reg j).room) = roomZ (if j = r then RD.any else s.reg j).room
          split <;> rfl
      · show (if j = r then 0 else N j) < _ ∧ ∀ m, (if j = r then RD.any else s.reg j).just = some m → (if j = r then 0 else N j) = m
        by_cases e : j = r
        · simp only [if_pos e]
          exact ⟨by omega, fun m hm => by cases hm⟩
        · simp only [if_neg e]
          exact HK2.out.2 j hj
    have x0 : wz.cell? ⟨rb, 0, none⟩ = some (.bool false) := hxr.cell 0
    have x1 : wz.cell? ⟨rb, 1, none⟩ = some (.slice none 0 0) := hxr.cell 1
    have x2 : wz.cell? ⟨rb, 2, none⟩ = some (.slice none 0 0) := hxr.cell 2
    have x3 : wz.cell? ⟨rb, 3, none⟩ = some (.slice none 0 0) := hxr.cell 3
    have x4 : wz.cell? ⟨rb, 4, none⟩ = some (.slice none 0 0) := hxr.cell 4
    have x5 : wz.cell? ⟨rb, 5, none⟩ = some (.slice none 0 0) := hxr.cell 5
    have z0 := hxr.fz 0
    have z1 := hxr.fz 1
    have z2 := hxr.fz 2
    have z3 := hxr.fz 3
    have z4 := hxr.fz 4
    have z5 := hxr.fz 5
    have hlr := hxr.lt
    have y0 : wz.cell? ⟨kb, 0, none⟩ = some (.bool t) := hxk.cell 0
    have y1 : wz.cell? ⟨kb, 1, none⟩ = some (.slice (some ⟨g1, 0, none⟩) 10 q.st.c) := hxk.cell 1
    have y2 : wz.cell? ⟨kb, 2, none⟩ = some (.slice (some ⟨g2, 0, none⟩) 10 q.ju.c) := hxk.cell 2
    have y3 : wz.cell? ⟨kb, 3, none⟩ = some (.slice (some ⟨g3, 0, none⟩) 10 q.nu.c) := hxk.cell 3
    have y4 : wz.cell? ⟨kb, 4, none⟩ = some (.slice (some ⟨g4, 0, none⟩) 10 q.ro.c) := hxk.cell 4
    have y5 : wz.cell? ⟨kb, 5, none⟩ = some (.slice q.sl.a q.sl.n q.sl.c) := hxk.cell 5
    have hlk := hxk.lt
    clear hxk hxr hbl hkr hkz HXK HXR HK2 HB2
    go_wp2
    refine bodyPost_ret (v := .agg #[.bool t, .slice (some ⟨g1, 0, none⟩) 10 q.st.c, .slice (some ⟨g2, 0, none⟩) 10 q.ju.c, .slice (some ⟨g3, 0, none⟩) 10 q.nu.c, .slice (some ⟨g4, 0, none⟩) 10 q.ro.c, .slice q.sl.a q.sl.n q.sl.c]) (by simp [results, Try.results29, go_sem, *]) rfl ?_
    rw [← EV.out]
    exact HE.out _ _ _ _ _ _
end Go.Proofs.Ytmohffibkpecpaa

namespace Go.Proofs.Ytmohffibkpecpaa
open Go.RowKit

/-- a list that is made -/
def MadeR (base n : Nat) (T : TypeId) (z : Value) (v : Value) (w : World) : Prop := ∃ g, v = .slice (some ⟨g, 0, none⟩) n n ∧ OwnF w T ⟨some ⟨g, 0, none⟩, n, n⟩ n (fun _ => z) ∧ base ≤ g ∧ g < w.heap.size
theorem MadeR.step {base n : Nat} {T : TypeId} {z v : Value} {w w' : World} (h : MadeR base n T z v w) (b : Below w.heap.size w w') : MadeR base n T z v w' := by
  obtain ⟨g, e, ho, h1, h2⟩ := h
  exact ⟨g, e, ho.step b, h1, Nat.lt_of_lt_of_le h2 b.size⟩
theorem MadeR.blk {base n : Nat} {T : TypeId} {z v : Value} {w : World} (h : MadeR base n T z v w) {g : Nat} (hg : v.ownBlock = some g) : base ≤ g ∧ g < w.heap.size := by
  obtain ⟨g', e, _, h1, h2⟩ := h
  rw [e] at hg
  simp only [Value.ownBlock, Option.some.injEq] at hg
  subst hg
  exact ⟨h1, h2⟩
@[reducible] def zeroK : Array Value := #[.bool false, .slice none 0 0, .slice none 0 0, .slice none 0 0, .slice none 0 0, .slice none 0 0]

/-- what a row of nothing yields -/
def NoR (base S : Nat) (i : Nat) (v : Value) (w : World) : Prop :=
  match i with
  | 0 | 1 => MadeR base 10 4 (.bool false) v w
  | 2 => MadeR base 10 33 (.int .u64 0) v w
  | 3 => v = .int .i64 (S : Int)
  | 4 => MadeR base S 4 (.bool false) v w
  | 5 => ∃ v0 v1 v2 v4, v = .agg #[.bool true, v0, v1, v2, .slice none 0 0, v4] ∧ MadeR base 10 4 (.bool false) v0 w ∧ MadeR base 10 4 (.bool false) v1 w ∧ MadeR base 10 33 (.int .u64 0) v2 w ∧ MadeR base S 4 (.bool false) v4 w ∧ (∀ g, v0.ownBlock = some g → v1.ownBlock ≠ some g ∧ v4.ownBlock ≠ some g) ∧ ∀ g, v1.ownBlock = some g → v4.ownBlock ≠ some g
  | 6 => ∃ g, v = .pointer (some ⟨g, 0, none⟩) ∧ BoxC w g zeroK 54 ∧ base ≤ g
  | _ => True
theorem noR_step {base S i : Nat} {v : Value} {w w' : World} (h : NoR base S i v w) (b : Below w.heap.size w w') : NoR base S i v w' := by
  unfold NoR at h ⊢
  split at h
  · exact h.step b
  · exact h.step b
  · exact h.step b
  · exact h
  · exact h.step b
  · obtain ⟨v0, v1, v2, v4, e, h0, h1, h2, h4, s1, s2⟩ := h
    exact ⟨v0, v1, v2, v4, e, h0.step b, h1.step b, h2.step b, h4.step b, s1, s2⟩
  · obtain ⟨g, e, hb, hl⟩ := h
    exact ⟨g, e, hb.step b, hl⟩
  · trivial
theorem noR_lt {base S i : Nat} {v : Value} {w : World} (h : NoR base S i v w) (hF : (i == 0 || i == 1 || i == 2 || i == 4) = true) {g : Nat} (hg : v.ownBlock = some g) : g < w.heap.size := by
  simp only [Bool.or_eq_true, beq_iff_eq] at hF
  rcases hF with ((rfl | rfl) | rfl) | rfl
  all_goals exact (MadeR.blk h hg).2

theorem made_one (z : Value) (n i : Nat) (hi : i < n) : (madeCells #[z] n)[i]? = some z := by
  unfold madeCells
  rw [Array.getElem?_map, Array.getElem?_range, if_pos hi]
  simp [Nat.mod_one]
/-- make of a list of one cell each -/
theorem make_run {T TS : TypeId} {z : Value} {bs : Nat} (hT : Try.prog.underlying TS = some (.slice T)) (hinfo : (Try.prog.info? T).map (fun i => (i.zero, i.size, i.bytes)) = some (some z, 1, bs)) (hz : z.cells = #[z]) (hbs : bs = 1 ∨ bs = 8) (n : Nat) (hn : n ≤ 1000) (base : Nat) (w : World) (hb : base ≤ w.heap.size) :
    ∃ w', (Instr.makeSlice TS (.int .i64 (n : Int)) (.int .i64 (n : Int))).run Try.prog w = .ok (.slice (some ⟨w.heap.size, 0, none⟩) n n) w' ∧ Below w.heap.size w w' ∧ MadeR base n T z (.slice (some ⟨w.heap.size, 0, none⟩) n n) w' := by
  obtain ⟨i0, hi, hz0, hz1, hz2⟩ := info_parts hinfo
  have h : (Instr.makeSlice TS (.int .i64 (n : Int)) (.int .i64 (n : Int))).run Try.prog w = .ok (.slice (some ⟨w.heap.size, 0, none⟩) ((n : Int)).toNat ((n : Int)).toNat) (w.alloc (.cells (madeCells z.cells (((n : Int)).toNat * i0.size)) T)) := by
    rcases hbs with rfl | rfl
    · exact run_make (P := Try.prog) w TS T i0 z hT hi hz0 .i64 .i64 (n : Int) (n : Int) (by omega) (by omega) (by rw [hz2]; omega) (by omega)
    · exact run_make (P := Try.prog) w TS T i0 z hT hi hz0 .i64 .i64 (n : Int) (n : Int) (by omega) (by omega) (by rw [hz2]; omega) (by omega)
  rw [show ((n : Int)).toNat = n by omega, hz1, Nat.mul_one, hz] at h
  refine ⟨_, h, bl_alloc (Below.refl _ _), w.heap.size, rfl, ⟨rfl, (fun ha => (by cases ha)), fun _ => ⟨w.heap.size, _, rfl, boxc_new (w := w) _ _ _ rfl, fun i hi => made_one z n i hi⟩⟩, hb, by simp⟩

theorem Try.zeroK : (Try.prog.info? 54).map (fun i => i.zero) = some (some (.agg zeroK)) := by kernel_rfl
theorem zero_kn (w : World) : (zeroValue 54).run Try.prog w = .ok (.agg zeroK) w := by
  have h := Try.zeroK
  cases hi : Try.prog.info? 54 with
  | none => rw [hi] at h; cases h
  | some i =>
    rw [hi] at h
    simp only [Option.map_some, Option.some.injEq] at h
    unfold zeroValue typeInfo
    simp [hi, h]
/-- while the rooms are told -/
structure NoAt (W0 : World) (base S kb rb j : Nat) (v0 v1 v2 v4 : Value) (w : World) : Prop where
  box : ∃ la cap, BoxC w kb #[.bool true, v0, v1, v2, .slice la j cap, v4] 54 ∧ w.ownsRow base 3 1 (.slice la j cap) j (List.replicate j (.int .i64 (-1)))
  rbx : BoxC w rb zeroK 54
  m0 : MadeR base 10 4 (.bool false) v0 w
  m1 : MadeR base 10 4 (.bool false) v1 w
  m2 : MadeR base 10 33 (.int .u64 0) v2 w
  m4 : MadeR base S 4 (.bool false) v4 w
  bel : Below W0.heap.size W0 w

/-- a list that is made stays where a row of numbers grows -/
theorem MadeR.grown {base n : Nat} {T : TypeId} {z v : Value} {w w' : World} {row : Option Nat} (h : MadeR base n T z v w) (hg : w.grownBy w' row) (hn : ∀ g, row = some g → ∃ cur, w.heap[g]? = some (.cells cur 3 (0, 0))) (hT : T ≠ 3) : MadeR base n T z v w' := by
  obtain ⟨g, e, ho, h1, h2⟩ := h
  refine ⟨g, e, ⟨ho.1, ho.2.1, fun hp => ?_⟩, h1, Nat.lt_of_lt_of_le h2 hg.size⟩
  obtain ⟨g', cur, e', hh, hc⟩ := ho.2.2 hp
  have hne : some g' ≠ row := fun er => by
    obtain ⟨c2, h3⟩ := hn g' er.symm
    rw [hh] at h3
    simp only [Option.some.injEq, Obj.cells.injEq] at h3
    exact hT h3.2.1
  exact ⟨g', cur, e', (hg.block g' (Array.getElem?_eq_some_iff.1 hh).1 hne).trans hh, hc⟩
theorem MadeR.off {base n : Nat} {T : TypeId} {z v : Value} {w : World} (h : MadeR base n T z v w) {kb : Nat} {cs : Array Value} (hb : BoxC w kb cs 54) (hT : T ≠ 54) (o : Nat) (u : Value) : MadeR base n T z v (w.setCell ⟨kb, o, none⟩ u) := by
  obtain ⟨g, e, ho, h1, h2⟩ := h
  refine ⟨g, e, ?_, h1, by rw [World.size_setCell]; exact h2⟩
  by_cases h0 : n = 0
  · exact ho.zero h0
  · refine ho.far (fun e2 => ?_) o u
    obtain ⟨g', _, b, cur, hh⟩ := ho.block (by omega)
    rw [e2] at b
    cases b
    have hb' : w.heap[kb]? = some (.cells cs 54 (0, 0)) := hb
    rw [hb'] at hh
    simp only [Option.some.injEq, Obj.cells.injEq] at hh
    exact hT hh.2.1.symm

theorem NoAt.push {W0 : World} {base S kb rb j : Nat} {v0 v1 v2 v4 : Value} {w : World} (h : NoAt W0 base S kb rb j v0 v1 v2 v4 w) (hj : j < 10) (hne : ¬ kb = rb) (hbw : W0.heap.size ≤ base) (hbk : base ≤ kb) {la : Option Addr} {cap : Nat} (hc : w.cell? ⟨kb, 4, none⟩ = some (.slice la j cap)) :
    ∃ g cap' w6, (Builtin.append_ #[52, 52] 52 #[.slice la j cap, .slice (some ⟨w.heap.size, 0, none⟩) 1 1]).run Try.prog (w.alloc (.cells #[.int .i64 (-1)] 3)) = .ok (.slice (some ⟨g, 0, none⟩) (j + 1) cap') w6 ∧ w6.cell? ⟨kb, 4, none⟩ = some (.slice la j cap) ∧ w6.frozen? ⟨kb, 4, none⟩ = false ∧ kb < w6.heap.size ∧ NoAt W0 base S kb rb (j + 1) v0 v1 v2 v4 (w6.setCell ⟨kb, 4, none⟩ (.slice (some ⟨g, 0, none⟩) (j + 1) cap')) := by
  obtain ⟨la', cap0, hbx, hown⟩ := h.box
  have e : (.slice la j cap : Value) = .slice la' j cap0 := by
    have := hbx.cell 4
    rw [hc] at this
    exact Option.some.inj this
  simp only [Value.slice.injEq, true_and] at e
  obtain ⟨rfl, rfl⟩ := e
  have hb1 : Below w.heap.size w (w.alloc (.cells #[.int .i64 (-1)] 3)) := bl_alloc (Below.refl _ _)
  have hbl : base ≤ w.heap.size := Nat.le_of_lt (Nat.lt_of_le_of_lt hbk hbx.lt)
  have hown1 := gowns_below hown hb1
  obtain ⟨g, cap', w6, hrun, ho, hg, _⟩ := grun_app (w := w.alloc (.cells #[.int .i64 (-1)] 3)) 52 Try.underlying52 Try.infoIn rfl (by decide) (ad := ⟨w.heap.size, 0, none⟩) (m := 1) (c := 1) (news := [.int .i64 (-1)]) hown1 rfl (fun i u hu => by
    cases i with
    | zero =>
      simp only [List.getElem?_cons_zero, Option.some.injEq] at hu
      subst hu
      rw [Addr.add_lit, Nat.add_zero]
      simp
    | succ i => simp at hu) (fun u hu => by rw [List.mem_singleton.1 hu]; rfl) (by decide) (by unfold maxLen; omega) (by omega) (Nat.le_trans hbl hb1.size)
  have hrow : ∀ g, (Value.slice la j cap).ownBlock = some g → ∃ cur, (w.alloc (.cells #[.int .i64 (-1)] 3)).heap[g]? = some (.cells cur 3 (0, 0)) := fun g hg => by
    rcases hown1.2 with ⟨e, _⟩ | ⟨g2, c2, cur, e, _, hh, _⟩
    · rw [e] at hg; simp [Value.ownBlock] at hg
    · rw [e] at hg
      simp only [Value.ownBlock, Option.some.injEq] at hg
      subst hg
      exact ⟨cur, hh⟩
  have hkeep : ∀ {p : Nat} {cs : Array Value}, BoxC w p cs 54 → BoxC w6 p cs 54 := fun {p cs} hp => by
    have h1 := hp.step hb1
    refine (hg.block p h1.lt (fun e => ?_)).trans h1
    obtain ⟨cur, h3⟩ := hrow p e.symm
    have h1' : (w.alloc (.cells #[.int .i64 (-1)] 3)).heap[p]? = some (.cells cs 54 (0, 0)) := h1
    rw [h1'] at h3
    simp only [Option.some.injEq, Obj.cells.injEq] at h3
    exact absurd h3.2.1 (by decide)
  have hb6 := hkeep hbx
  have hbel : Below W0.heap.size W0 w6 := by
    have h1 := bl_step h.bel hb1
    refine h1.trans ⟨hg.os, hg.tape, hg.output, hg.size, fun k hk => hg.block k (Nat.lt_of_lt_of_le hk h1.size) fun e => ?_⟩
    rcases hown1.2 with ⟨e2, _⟩ | ⟨g2, c2, cur, e2, hb2, _⟩
    · rw [e2] at e; simp [Value.ownBlock] at e
    · rw [e2] at e
      simp only [Value.ownBlock, Option.some.injEq] at e
      omega
  have m0 := (h.m0.step hb1).grown hg hrow (by decide)
  have m1 := (h.m1.step hb1).grown hg hrow (by decide)
  have m2 := (h.m2.step hb1).grown hg hrow (by decide)
  have m4 := (h.m4.step hb1).grown hg hrow (by decide)
  have hgk : g ≠ kb := fun e => by
    subst e
    rcases ho.2 with ⟨e2, _⟩ | ⟨g2, c2, cur, e2, _, hh, _⟩
    · cases e2
    · simp only [Value.slice.injEq, Option.some.injEq, Addr.mk.injEq, and_true] at e2
      have h3 : w6.heap[g]? = some (.cells _ 54 (0, 0)) := hb6
      rw [← e2.1, h3] at hh
      simp only [Option.some.injEq, Obj.cells.injEq] at hh
      exact absurd hh.2.1 (by decide)
  refine ⟨g, cap', w6, hrun, hb6.cell 4, hb6.fz 4, hb6.lt, ⟨some ⟨g, 0, none⟩, cap', hb6.put 4 _, ?_⟩, (hkeep h.rbx).far hne _ _, m0.off hb6 (by decide) _ _, m1.off hb6 (by decide) _ _, m2.off hb6 (by decide) _ _, m4.off hb6 (by decide) _ _, hput1 hbel (by omega) _ _⟩
  have := ownsRow_setCell_other ho (a := ⟨kb, 4, none⟩) (by simp [Value.ownBlock]; exact hgk) (.slice (some ⟨g, 0, none⟩) (j + 1) cap')
  rw [List.replicate_succ']
  exact this

set_option maxHeartbeats 4000000 in
set_option maxRecDepth 20000 in
theorem knothing (S : Nat) (hS : S ≤ 96) (w : World) : Calls Try.prog 13 #[.int .i64 (S : Int)] w (OwnKIs S true SD.none (fun _ => 0) w) := by
  obtain ⟨W1, hW1⟩ : ∃ W, W = w.alloc (.cells zeroK 54) := ⟨_, rfl⟩
  obtain ⟨rb, hrb⟩ : ∃ b, b = w.heap.size := ⟨_, rfl⟩
  have b1 : Below w.heap.size w W1 := by rw [hW1]; exact bl_alloc (Below.refl _ _)
  have xr : BoxC W1 rb zeroK 54 := by rw [hW1, hrb]; exact boxc_new _ _ _ rfl
  have HB1 := hid b1
  have HXR := hid xr
  have EW := hid hW1
  have ER := hid hrb
  clear hW1 hrb b1 xr
  go_enter Try.func13, Try.ntmps13
  go_upto_region 1 with fail
  rw [← EW.out, ← ER.out]
  refine wp_region_rows 7 [5, 6, 7, 8, 9, 10, 3] (by kernel_rfl) (by kernel_rfl) (fun d hd => by simp only [List.mem_cons, List.not_mem_nil, or_false] at hd; show d < 21; omega) (NoR W1.heap.size S) (fun i => i == 0 || i == 1 || i == 2 || i == 4) (fun i v w1 w2 h b => noR_step h b) (fun i v w1 g h hF hg => noR_lt h hF hg) ?_ ?_
  · intro i o hi ho a1 w1 hb hold hdep hsep
    have t0 : a1.tmps[0]? = some (.int .i64 (S : Int)) := hold 0 (by decide)
    have hbs : W1.heap.size ≤ w1.heap.size := hb.size
    rcases (show i = 0 ∨ i = 1 ∨ i = 2 ∨ i = 3 ∨ i = 4 ∨ i = 5 ∨ i = 6 by omega) with rfl | rfl | rfl | rfl | rfl | rfl | rfl
    all_goals
      simp only [List.getElem?_cons_succ, List.getElem?_cons_zero, Option.some.injEq] at ho
      subst ho
    · obtain ⟨w2, hrun, hb2, hm⟩ := make_run (n := 10) Try.underlying50 Try.infoBo rfl (.inl rfl) (by decide) W1.heap.size w1 hbs
      have hrun : (Instr.makeSlice 50 (.int .i64 10) (.int .i64 10)).run Try.prog w1 = _ := hrun
      exact ⟨_, w2, by simp [execOp, go_sem, hrun], hb2, hm, fun _ g hg => by simp only [Value.ownBlock, Option.some.injEq] at hg; omega⟩
    · obtain ⟨w2, hrun, hb2, hm⟩ := make_run (n := 10) Try.underlying50 Try.infoBo rfl (.inl rfl) (by decide) W1.heap.size w1 hbs
      have hrun : (Instr.makeSlice 50 (.int .i64 10) (.int .i64 10)).run Try.prog w1 = _ := hrun
      exact ⟨_, w2, by simp [execOp, go_sem, hrun], hb2, hm, fun _ g hg => by simp only [Value.ownBlock, Option.some.injEq] at hg; omega⟩
    · obtain ⟨w2, hrun, hb2, hm⟩ := make_run (n := 10) Try.underlying51 Try.info33 rfl (.inr rfl) (by decide) W1.heap.size w1 hbs
      have hrun : (Instr.makeSlice 51 (.int .i64 10) (.int .i64 10)).run Try.prog w1 = _ := hrun
      exact ⟨_, w2, by simp [execOp, go_sem, hrun], hb2, hm, fun _ g hg => by simp only [Value.ownBlock, Option.some.injEq] at hg; omega⟩
    · exact ⟨.int .i64 (S : Int), w1, by simp [execOp, go_sem, t0], Below.refl _ _, rfl, fun h => by cases h⟩
    · obtain ⟨v, hv, hr⟩ := hdep { on := 3, ground := .data } (by simp) rfl
      obtain rfl : v = .int .i64 (S : Int) := hr
      have hv : a1.tmps[8]? = some (.int .i64 (S : Int)) := hv
      obtain ⟨w2, hrun, hb2, hm⟩ := make_run (n := S) Try.underlying50 Try.infoBo rfl (.inl rfl) (by omega) W1.heap.size w1 hbs
      exact ⟨_, w2, by simp [execOp, go_sem, hv, hrun], hb2, hm, fun _ g hg => by simp only [Value.ownBlock, Option.some.injEq] at hg; omega⟩
    · obtain ⟨v0, hv0, h0⟩ := hdep { on := 0, ground := .data } (by simp) rfl
      obtain ⟨v1, hv1, h1⟩ := hdep { on := 1, ground := .data } (by simp) rfl
      obtain ⟨v2, hv2, h2⟩ := hdep { on := 2, ground := .data } (by simp) rfl
      obtain ⟨v4, hv4, h4⟩ := hdep { on := 4, ground := .data } (by simp) rfl
      have s1 := hsep { on := 0, ground := .data } (by simp) { on := 1, ground := .data } (by simp) rfl rfl rfl rfl (by decide) v0 v1
      have s2 := hsep { on := 0, ground := .data } (by simp) { on := 4, ground := .data } (by simp) rfl rfl rfl rfl (by decide) v0 v4
      have s3 := hsep { on := 1, ground := .data } (by simp) { on := 4, ground := .data } (by simp) rfl rfl rfl rfl (by decide) v1 v4
      have hv0 : a1.tmps[5]? = some v0 := hv0
      have hv1 : a1.tmps[6]? = some v1 := hv1
      have hv2 : a1.tmps[7]? = some v2 := hv2
      have hv4 : a1.tmps[9]? = some v4 := hv4
      refine ⟨.agg #[.bool true, v0, v1, v2, .slice none 0 0, v4], w1, ?_, Below.refl _ _, ⟨v0, v1, v2, v4, rfl, h0, h1, h2, h4, fun g hg => ⟨s1 g hv0 hv1 hg, s2 g hv0 hv4 hg⟩, fun g hg => s3 g hv1 hv4 hg⟩, fun h => by cases h⟩
      obtain ⟨g0, rfl, _⟩ := h0
      obtain ⟨g1', rfl, _⟩ := h1
      obtain ⟨g2', rfl, _⟩ := h2
      obtain ⟨g4', rfl, _⟩ := h4
      have hbt := run_build (P := Try.prog) w1 54 #[(0, .bool true), (1, .slice (some ⟨g0, 0, none⟩) 10 10), (2, .slice (some ⟨g1', 0, none⟩) 10 10), (3, .slice (some ⟨g2', 0, none⟩) 10 10), (5, .slice (some ⟨g4', 0, none⟩) S S)] #[.bool true, .slice (some ⟨g0, 0, none⟩) 10 10, .slice (some ⟨g1', 0, none⟩) 10 10, .slice (some ⟨g2', 0, none⟩) 10 10, .slice none 0 0, .slice (some ⟨g4', 0, none⟩) S S] (by kernel_rfl)
      unfold execOp
      simp only [List.map_toArray, List.map_cons, List.map_nil, tmp_eval hv0, tmp_eval hv1, tmp_eval hv2, tmp_eval hv4]
      simp only [Act.eval, Sem.run_bind, hbt, Result.andThen_ok, Sem.run_pure]
    · have hz := zero_kn w1
      exact ⟨.pointer (some ⟨w1.heap.size, 0, none⟩), w1.alloc (.cells zeroK 54), by simp [execOp, go_sem, hz], bl_alloc (Below.refl _ _), ⟨w1.heap.size, rfl, boxc_new _ _ _ rfl, hbs⟩, fun h => by cases h⟩
  · intro val w2 hb hR _
    obtain ⟨v0, v1, v2, v4, e5, m0, m1, m2, m4, s1, s2⟩ := hR 5 (by decide)
    obtain ⟨kb, e6, bk, lk⟩ := hR 6 (by decide)
    simp only [putsN, Act.put, List.getD_cons_zero, List.getD_cons_succ, List.setIfInBounds_toArray, List.set_cons_succ, List.set_cons_zero]
    rw [e5, e6]
    simp only [List.drop_succ_cons, List.drop_zero]
    have xr := HXR.out.step hb
    have hrk : ¬ kb = rb := by have := HXR.out.lt; omega
    have hrk' : ¬ rb = kb := by have := HXR.out.lt; omega
    have x0 : w2.cell? ⟨kb, 0, none⟩ = some (.bool false) := bk.cell 0
    have x1 : w2.cell? ⟨kb, 1, none⟩ = some (.slice none 0 0) := bk.cell 1
    have x2 : w2.cell? ⟨kb, 2, none⟩ = some (.slice none 0 0) := bk.cell 2
    have x3 : w2.cell? ⟨kb, 3, none⟩ = some (.slice none 0 0) := bk.cell 3
    have x4 : w2.cell? ⟨kb, 4, none⟩ = some (.slice none 0 0) := bk.cell 4
    have x5 : w2.cell? ⟨kb, 5, none⟩ = some (.slice none 0 0) := bk.cell 5
    have z0 := bk.fz 0
    have z1 := bk.fz 1
    have z2 := bk.fz 2
    have z3 := bk.fz 3
    have z4 := bk.fz 4
    have z5 := bk.fz 5
    have hlk := bk.lt
    have HWB : Hid (w.heap.size ≤ W1.heap.size ∧ W1.heap.size ≤ kb ∧ w.heap.size ≤ rb) := ⟨HB1.out.size, lk, by rw [ER.out]; exact Nat.le_refl _⟩
    obtain ⟨W4, hW4⟩ : ∃ W, W = (((((w2.setCell ⟨kb, 0, none⟩ (.bool true)).setCell ⟨kb, 1, none⟩ v0).setCell ⟨kb, 2, none⟩ v1).setCell ⟨kb, 3, none⟩ v2).setCell ⟨kb, 4, none⟩ (.slice none 0 0)).setCell ⟨kb, 5, none⟩ v4 := ⟨_, rfl⟩
    have bo : ∀ {T : TypeId} {n : Nat} {z v : Value}, T ≠ 54 → MadeR W1.heap.size n T z v w2 → MadeR W1.heap.size n T z v W4 := fun {T n z v} hT hm => by
      rw [hW4]
      have c0 := bk
      have c1 := BoxC.put c0 0 (.bool true)
      have c2 := BoxC.put c1 1 v0
      have c3 := BoxC.put c2 2 v1
      have c4 := BoxC.put c3 3 v2
      have c5 := BoxC.put c4 4 (.slice none 0 0)
      exact (((((hm.off c0 hT _ _).off c1 hT _ _).off c2 hT _ _).off c3 hT _ _).off c4 hT _ _).off c5 hT _ _
    have HN0 : Hid (NoAt w W1.heap.size S kb rb 0 v0 v1 v2 v4 W4) := by
      refine ⟨⟨none, 0, ?_, World.ownsRow_nil _ _ _ _⟩, ?_, bo (by decide) m0, bo (by decide) m1, bo (by decide) m2, bo (by decide) m4, ?_⟩
      · rw [hW4]
        exact (((((bk.put 0 _).put 1 _).put 2 _).put 3 _).put 4 _).put 5 _
      · rw [hW4]
        exact (((((xr.far hrk _ _).far hrk _ _).far hrk _ _).far hrk _ _).far hrk _ _).far hrk _ _
      · have hwk : w.heap.size ≤ kb := Nat.le_trans HB1.out.size lk
        rw [hW4]
        exact hput1 (hput1 (hput1 (hput1 (hput1 (hput1 (bl_step HB1.out hb) hwk _ _) hwk _ _) hwk _ _) hwk _ _) hwk _ _) hwk _ _
    have HS12 : Hid ((∀ g, v0.ownBlock = some g → v1.ownBlock ≠ some g ∧ v4.ownBlock ≠ some g) ∧ ∀ g, v1.ownBlock = some g → v4.ownBlock ≠ some g) := ⟨s1, s2⟩
    have HV : Hid (v0.oneCell' = true ∧ v1.oneCell' = true ∧ v2.oneCell' = true ∧ v4.oneCell' = true) := by
      obtain ⟨_, rfl, _⟩ := m0
      obtain ⟨_, rfl, _⟩ := m1
      obtain ⟨_, rfl, _⟩ := m2
      obtain ⟨_, rfl, _⟩ := m4
      exact ⟨rfl, rfl, rfl, rfl⟩
    obtain ⟨q0, eq0, _⟩ := m0
    obtain ⟨q1, eq1, _⟩ := m1
    obtain ⟨q2, eq2, _⟩ := m2
    obtain ⟨q4, eq4, _⟩ := m4
    subst eq0 eq1 eq2 eq4
    have E4 := hid hW4
    clear hR e5 e6 s1 s2 bk lk xr hb hW4 bo HXR HB1 EW ER
    go_upto_region 2 with fail
    rw [← E4.out]
    clear E4 x0 x1 x2 x3 x4 x5 z0 z1 z2 z3 z4 z5 hlk
    go_wp2
    go_loopw [4] (fun v wr => ∃ j : Nat, j ≤ 10 ∧ v = .int .i64 j ∧ Hid (NoAt w W1.heap.size S kb rb j (.slice (some ⟨q0, 0, none⟩) 10 10) (.slice (some ⟨q1, 0, none⟩) 10 10) (.slice (some ⟨q2, 0, none⟩) 10 10) (.slice (some ⟨q4, 0, none⟩) S S) wr)) (fun v _ => 10 - (intOf v).toNat)
    case atStart => exact ⟨0, Nat.zero_le _, rfl, HN0⟩
    case round =>
      obtain ⟨j, hj, rfl, J⟩ := hrel
      clear HN0
      obtain ⟨la, cap, hbx, hown⟩ := J.out.box
      by_cases hlt : j < 10
      · have hji : (j : Int) < 10 := by omega
        have c4 : wr.cell? ⟨kb, 4, none⟩ = some (.slice la j cap) := hbx.cell 4
        have hlk := hbx.lt
        obtain ⟨g, cap', w6, hrun, d4, f4, hl6, hn⟩ := J.out.push hlt hrk HWB.out.1 HWB.out.2.1 c4
        have HN := hid hn
        clear hn hbx hown J
        go_wp2_with (at_builtin; refine gapp_run rfl _ _ rfl rfl rfl hrun ?_)
        go_wp2
        go_roundw
        case rel => exact ⟨j + 1, by omega, by go_num, HN⟩
        case measure => simp [intOf]; omega
      · obtain rfl : j = 10 := by omega
        have k0 : wr.cell? ⟨kb, 0, none⟩ = some (.bool true) := hbx.cell 0
        have k1 : wr.cell? ⟨kb, 1, none⟩ = some (.slice (some ⟨q0, 0, none⟩) 10 10) := hbx.cell 1
        have k2 : wr.cell? ⟨kb, 2, none⟩ = some (.slice (some ⟨q1, 0, none⟩) 10 10) := hbx.cell 2
        have k3 : wr.cell? ⟨kb, 3, none⟩ = some (.slice (some ⟨q2, 0, none⟩) 10 10) := hbx.cell 3
        have k4 : wr.cell? ⟨kb, 4, none⟩ = some (.slice la 10 cap) := hbx.cell 4
        have k5 : wr.cell? ⟨kb, 5, none⟩ = some (.slice (some ⟨q4, 0, none⟩) S S) := hbx.cell 5
        have hxr := J.out.rbx
        have x0 : wr.cell? ⟨rb, 0, none⟩ = some (.bool false) := hxr.cell 0
        have x1 : wr.cell? ⟨rb, 1, none⟩ = some (.slice none 0 0) := hxr.cell 1
        have x2 : wr.cell? ⟨rb, 2, none⟩ = some (.slice none 0 0) := hxr.cell 2
        have x3 : wr.cell? ⟨rb, 3, none⟩ = some (.slice none 0 0) := hxr.cell 3
        have x4 : wr.cell? ⟨rb, 4, none⟩ = some (.slice none 0 0) := hxr.cell 4
        have x5 : wr.cell? ⟨rb, 5, none⟩ = some (.slice none 0 0) := hxr.cell 5
        have z0 := hxr.fz 0
        have z1 := hxr.fz 1
        have z2 := hxr.fz 2
        have z3 := hxr.fz 3
        have z4 := hxr.fz 4
        have z5 := hxr.fz 5
        have hlr := hxr.lt
        have hlk := hbx.lt
        have HE : Hid (∀ u0 u1 u2 u3 u4 u5, OwnKIs S true SD.none (fun _ => 0) w (.returned (KV.v true ⟨⟨some ⟨q0, 0, none⟩, 10, 10⟩, ⟨some ⟨q1, 0, none⟩, 10, 10⟩, ⟨some ⟨q2, 0, none⟩, 10, 10⟩, ⟨la, 10, cap⟩, ⟨some ⟨q4, 0, none⟩, S, S⟩⟩)) ((((((wr.setCell ⟨rb, 0, none⟩ u0).setCell ⟨rb, 1, none⟩ u1).setCell ⟨rb, 2, none⟩ u2).setCell ⟨rb, 3, none⟩ u3).setCell ⟨rb, 4, none⟩ u4).setCell ⟨rb, 5, none⟩ u5)) := fun u0 u1 u2 u3 u4 u5 => by
          obtain ⟨g0, e0, o0, l0⟩ := J.out.m0
          obtain ⟨g1, e1, o1, l1⟩ := J.out.m1
          obtain ⟨g2, e2, o2, l2⟩ := J.out.m2
          obtain ⟨g4, e4, o4, l4⟩ := J.out.m4
          simp only [Value.slice.injEq, Option.some.injEq, Addr.mk.injEq, and_true] at e0 e1 e2 e4
          subst e0 e1 e2 e4
          have hro : OwnF wr 3 ⟨la, 10, cap⟩ 10 (fun _ => .int .i64 (-1)) := OwnF.of hown (fun i hi => by rw [List.getElem?_replicate, if_pos hi])
          have hrl : ∀ g, (Value.slice la 10 cap).ownBlock = some g → W1.heap.size ≤ g ∧ g < wr.heap.size := fun g hg => by
            rcases hown.2 with ⟨e, _⟩ | ⟨g2, c2, cur, e, hb2, hh, _⟩
            · rw [e] at hg; simp [Value.ownBlock] at hg
            · rw [e] at hg
              simp only [Value.ownBlock, Option.some.injEq] at hg
              subst hg
              exact ⟨hb2, (Array.getElem?_eq_some_iff.1 hh).1⟩
          have hk : KRaw w.heap.size S ⟨⟨some ⟨q0, 0, none⟩, 10, 10⟩, ⟨some ⟨q1, 0, none⟩, 10, 10⟩, ⟨some ⟨q2, 0, none⟩, 10, 10⟩, ⟨la, 10, cap⟩, ⟨some ⟨q4, 0, none⟩, S, S⟩⟩ (fun _ => false) (fun _ => false) (fun _ => 0) (fun _ => -1) (fun _ => false) wr := by
            refine ⟨o0, o1, o2, hro, o4, HS12.out.1, HS12.out.2, fun g hg => ?_⟩
            have hwb := HWB.out.1
            rcases hg with hg | hg | hg | hg | hg
            · simp only [Value.ownBlock, Option.some.injEq] at hg; omega
            · simp only [Value.ownBlock, Option.some.injEq] at hg; omega
            · simp only [Value.ownBlock, Option.some.injEq] at hg; omega
            · have := hrl g hg; omega
            · simp only [Value.ownBlock, Option.some.injEq] at hg; omega
          have c1 := BoxC.put hxr 0 u0
          have c2 := BoxC.put c1 1 u1
          have c3 := BoxC.put c2 2 u2
          have c4 := BoxC.put c3 3 u3
          have c5 := BoxC.put c4 4 u4
          have hrbw := HWB.out.2.2
          exact ⟨_, rfl, ⟨(((((hk.off hxr 0 u0).off c1 1 u1).off c2 2 u2).off c3 3 u3).off c4 4 u4).off c5 5 u5, fun i _ => ⟨show (0 : Nat) < 18446744073709551616 by decide, fun n hn => by cases hn⟩⟩, hput1 (hput1 (hput1 (hput1 (hput1 (hput1 J.out.bel hrbw _ _) hrbw _ _) hrbw _ _) hrbw _ _) hrbw _ _) hrbw _ _⟩
        clear hbx hown J hxr HS12 HV
        go_wp2
        exact bodyPost_ret (v := KV.v true ⟨⟨some ⟨q0, 0, none⟩, 10, 10⟩, ⟨some ⟨q1, 0, none⟩, 10, 10⟩, ⟨some ⟨q2, 0, none⟩, 10, 10⟩, ⟨la, 10, cap⟩, ⟨some ⟨q4, 0, none⟩, S, S⟩⟩) (by simp [results, Try.results13, go_sem, *]) rfl (HE.out _ _ _ _ _ _)
end Go.Proofs.Ytmohffibkpecpaa

namespace Go.Proofs.Ytmohffibkpecpaa
open Go.RowKit

@[reducible] def kvA (t : Bool) (q : KV) : Array Value := #[.bool t, .slice q.st.a q.st.n q.st.c, .slice q.ju.a q.ju.n q.ju.c, .slice q.nu.a q.nu.n q.nu.c, .slice q.ro.a q.ro.n q.ro.c, .slice q.sl.a q.sl.n q.sl.c]

set_option maxHeartbeats 2000000 in
set_option maxRecDepth 20000 in
theorem kmeet_none (S : Nat) (hS : S ≤ 96) (qa qb : KV) (s : SD) (N : Nat → Nat) (w : World) (h : KLie S qb s N w) : Calls Try.prog 17 #[KV.v false qa, KV.v true qb] w (OwnKIs S true s N w) := by
  obtain ⟨W3, hW3⟩ : ∃ W, W = ((w.alloc (.cells (kvA false qa) 54)).alloc (.cells (kvA true qb) 54)).alloc (.cells zeroK 54) := ⟨_, rfl⟩
  obtain ⟨ab, hab⟩ : ∃ b, b = w.heap.size := ⟨_, rfl⟩
  obtain ⟨bb, hbb⟩ : ∃ b, b = w.heap.size + 1 := ⟨_, rfl⟩
  obtain ⟨rb, hrb⟩ : ∃ b, b = w.heap.size + 1 + 1 := ⟨_, rfl⟩
  have b3 : Below w.heap.size w W3 := by rw [hW3]; exact bl_alloc (bl_alloc (bl_alloc (Below.refl _ _)))
  have xa : BoxC W3 ab (kvA false qa) 54 := by rw [hW3, hab]; exact BoxC.step (boxc_new _ _ _ rfl) (bl_alloc (bl_alloc (Below.refl _ _)))
  have xb : BoxC W3 bb (kvA true qb) 54 := by rw [hW3, hbb]; exact BoxC.step (boxc_new _ _ _ (by simp)) (bl_alloc (Below.refl _ _))
  have xr : BoxC W3 rb zeroK 54 := by rw [hW3, hrb]; exact boxc_new _ _ _ (by simp)
  have a0 : W3.cell? ⟨ab, 0, none⟩ = some (.bool false) := xa.cell 0
  have k0 : W3.cell? ⟨bb, 0, none⟩ = some (.bool true) := xb.cell 0
  have k1 : W3.cell? ⟨bb, 1, none⟩ = some (.slice qb.st.a qb.st.n qb.st.c) := xb.cell 1
  have k2 : W3.cell? ⟨bb, 2, none⟩ = some (.slice qb.ju.a qb.ju.n qb.ju.c) := xb.cell 2
  have k3 : W3.cell? ⟨bb, 3, none⟩ = some (.slice qb.nu.a qb.nu.n qb.nu.c) := xb.cell 3
  have k4 : W3.cell? ⟨bb, 4, none⟩ = some (.slice qb.ro.a qb.ro.n qb.ro.c) := xb.cell 4
  have k5 : W3.cell? ⟨bb, 5, none⟩ = some (.slice qb.sl.a qb.sl.n qb.sl.c) := xb.cell 5
  have hla := xa.lt
  have hlb := xb.lt
  have HO := hid (kown S hS true qb s N W3 (h.step b3))
  dsimp only [KV.v] at HO
  have HB := hid b3
  have HXR := hid xr
  have HRB : Hid (w.heap.size ≤ rb) := by rw [hrb]; show _ ≤ _; omega
  have EW := hid hW3
  have EA := hid hab
  have EB := hid hbb
  have ER := hid hrb
  clear hW3 hab hbb hrb b3 xa xb xr h
  dsimp only [KV.v]
  go_enter Try.func17, Try.ntmps17
  go_upto_region 1 with fail
  rw [← EW.out, ← ER.out, ← EB.out, ← EA.out]
  clear EW ER EB EA
  go_wp2_with fail
  refine HO.out.mono ?_
  rintro e w4 ⟨q, rfl, hk, hb⟩
  have hxr := HXR.out.step hb
  have x0 : w4.cell? ⟨rb, 0, none⟩ = some (.bool false) := hxr.cell 0
  have x1 : w4.cell? ⟨rb, 1, none⟩ = some (.slice none 0 0) := hxr.cell 1
  have x2 : w4.cell? ⟨rb, 2, none⟩ = some (.slice none 0 0) := hxr.cell 2
  have x3 : w4.cell? ⟨rb, 3, none⟩ = some (.slice none 0 0) := hxr.cell 3
  have x4 : w4.cell? ⟨rb, 4, none⟩ = some (.slice none 0 0) := hxr.cell 4
  have x5 : w4.cell? ⟨rb, 5, none⟩ = some (.slice none 0 0) := hxr.cell 5
  have z0 := hxr.fz 0
  have z1 := hxr.fz 1
  have z2 := hxr.fz 2
  have z3 := hxr.fz 3
  have z4 := hxr.fz 4
  have z5 := hxr.fz 5
  have hlr := hxr.lt
  have HE : Hid (∀ u0 u1 u2 u3 u4 u5, OwnKIs S true s N w (.returned (KV.v true q)) ((((((w4.setCell ⟨rb, 0, none⟩ u0).setCell ⟨rb, 1, none⟩ u1).setCell ⟨rb, 2, none⟩ u2).setCell ⟨rb, 3, none⟩ u3).setCell ⟨rb, 4, none⟩ u4).setCell ⟨rb, 5, none⟩ u5)) := fun u0 u1 u2 u3 u4 u5 => by
    have c1 := BoxC.put hxr 0 u0
    have c2 := BoxC.put c1 1 u1
    have c3 := BoxC.put c2 2 u2
    have c4 := BoxC.put c3 3 u3
    have c5 := BoxC.put c4 4 u4
    have hw := HB.out.size
    have hk' : KRaw w.heap.size S q _ _ N _ _ w4 := ⟨hk.1.st, hk.1.ju, hk.1.nu, hk.1.ro, hk.1.sl, hk.1.a1, hk.1.a2, fun g hg => ⟨Nat.le_trans hw (hk.1.lo g hg).1, (hk.1.lo g hg).2⟩⟩
    exact ⟨q, rfl, ⟨(((((hk'.off hxr 0 u0).off c1 1 u1).off c2 2 u2).off c3 3 u3).off c4 4 u4).off c5 5 u5, hk.2⟩, hput1 (hput1 (hput1 (hput1 (hput1 (hput1 (bl_step HB.out hb) HRB.out _ _) HRB.out _ _) HRB.out _ _) HRB.out _ _) HRB.out _ _) HRB.out _ _⟩
  clear hxr hk hb HO HXR a0 k0 k1 k2 k3 k4 k5 hla hlb
  go_wp2
  exact bodyPost_ret (v := KV.v true q) (by simp [results, Try.results17, go_sem, *]) rfl (HE.out _ _ _ _ _ _)

theorem RowF.pos {w : World} {s : QSl} {n : Nat} {f : Nat → Value} (h : RowF w s n f) (hn : 0 < n) : ∃ g off, s.a = some ⟨g, off, none⟩ ∧ s.n = n ∧ ∀ i, i < n → w.cell? ⟨g, off + i, none⟩ = some (f i) := by
  obtain ⟨g, off, e, _⟩ := h.2 0 hn
  refine ⟨g, off, e, h.1, fun i hi => ?_⟩
  obtain ⟨g', off', e', hc⟩ := h.2 i hi
  rw [e] at e'
  cases e'
  exact hc
end Go.Proofs.Ytmohffibkpecpaa
