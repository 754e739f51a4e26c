/- What Add does where it adds. -/
import Derived.Test.YtfpefjadlbphiabEAdd
namespace Go.Proofs.Ytfpefjadlbphiab
open Go.RowKit Go.Maps

theorem Grew.trans {w w' w'' : World} {row : Option Nat} (h : Grew w w' none) (k : Grew w' w'' row) : w.grownBy w'' row :=
  ⟨k.1.os.trans h.1.os, k.1.tape.trans h.1.tape, k.1.output.trans h.1.output, Nat.le_trans h.1.size k.1.size, fun i hi hne => (k.1.block i (Nat.lt_of_lt_of_le hi h.1.size) hne).trans (h.1.block i hi (by simp))⟩

theorem nodup_snoc {l : List (List UInt8)} {x : List UInt8} (h : l.Nodup) (hx : x ∉ l) : (l ++ [x]).Nodup := by
  rw [List.nodup_append]
  refine ⟨h, by simp, ?_⟩
  intro a ha b hb e
  simp only [List.mem_singleton] at hb
  subst hb; subst e
  exact hx ha

/-- an entry more: the table behind it -/
theorem Tab.put {w w' : World} {p b K M : Nat} {C : List UInt8 → Option (Int × List Int)} {ss : List (List UInt8)} {D : DataW Value} {x : List UInt8} {v : Value} {h : Int × List Int} (t : Tab w p b K M C ss) (hD : Holding w b C ss.length D)
    (hC : (C x).isSome = false) (hM : ss.length < M) (hl : x.length = 8 * K) (hs : Says w v h) (hown : w'.ownsMap Try.prog 9 rv b (ss.length + 1) (D.put (.string x) (.held v))) (g : w.grownBy w' (some b)) :
    Tab w' p b K M (upd C x (some h)) (ss ++ [x]) := by
  have G := t.grew_own g
  have hx : x ∉ ss := fun hx => by have := (t.mem x).1 hx; rw [hC] at this; cases this
  refine ⟨G.cell t.c0, G.cell t.c1, G.cell t.c2, nodup_snoc t.nd hx, fun y => ?_, fun y hy => ?_, by simp; omega, D.put (.string x) (.held v), ?_⟩
  · unfold upd
    by_cases e : y = x
    · subst e; simp
    · simp only [List.mem_append, List.mem_singleton, e, or_false]
      exact t.mem y
  · simp only [List.mem_append, List.mem_singleton] at hy
    rcases hy with hy | rfl
    · exact t.len y hy
    · exact hl
  · have := hD.put G hown hs
    simpa using this

theorem Tab.drew {w : World} {p b K M : Nat} {C : List UInt8 → Option (Int × List Int)} {ss : List (List UInt8)} (t : Tab w p b K M C ss) : Tab w.drew p b K M C ss := t.step (Below.refl _ _).drew

theorem Says.drew {w : World} {v : Value} {h : Int × List Int} (s : Says w v h) : Says w.drew v h := s.grew (grew_below (Below.refl _ _).drew)

set_option maxHeartbeats 1000000 in
set_option maxRecDepth 20000 in
theorem add_good {w : World} {p b K M c : Nat} {C : List UInt8 → Option (Int × List Int)} {ss : List (List UInt8)} {a d : Option Addr} {n e : Nat} {x : Int} {h : Int × List Int} {ks : List Int} (t : Tab w p b K M C ss) (hK : K ≤ 1000) (hM0 : M ≤ 100000) (hk : Has .u64 w a K ks)
    (hC : (C (Mth.nm ks)).isSome = false) (hM : ss.length < M) (hs : Says w (.agg #[.int .i64 x, .slice d n e]) h) :
    Calls Try.prog 30 #[.pointer (some ⟨p, 0, none⟩), .slice a K c, .agg #[.int .i64 x, .slice d n e]] w fun e w' => e = .returned (.int .i64 0) ∧ Tab w' p b K M (upd C (Mth.nm ks) (some h)) (ss ++ [Mth.nm ks]) ∧ w.grownBy w' (some b) := by
  have c0 := ((bl_alloc (o := HC x d n e) (Below.refl w.heap.size w)).cell (p := ⟨p, 0, none⟩) (World.block_lt_of_cell? w _ t.c0)).trans t.c0
  have hne : ((K : Int) != (K : Int)) = false := by simp
  have hl : Hid ((Mth.nm ks).length = 8 * K) := by rw [Mth.nm_length, hk.1]; rfl
  have HT := hid t
  have HK := hid hk
  have HS := hid hs
  clear t hk hs
  go_enter Try.func30, Try.ntmps30
  go_wp2_with fail
  refine (name_any _ _ _ ks _ hK HK.out.alloc).mono ?_
  rintro e0 w1 ⟨rfl, hb1⟩
  have t1 := HT.out.named hb1
  obtain ⟨D, hD⟩ := t1.map
  have hlx : (Mth.nm ks).length ≤ 1000000 := by rw [hl.out]; omega
  obtain ⟨y, a1, k1, d1, hrun, hsy⟩ := look_ok hD _ hlx
  have HCn := hid hC
  rw [hC] at hrun
  have hlen := fun ty => len_run hD t1.nd t1.mem (HC y a1 k1 d1) ty
  have c2 := t1.c2
  have c1 := t1.c1
  have hp := World.block_lt_of_cell? w1 _ c1
  have hMi : ¬ (M : Int) ≤ (ss.length : Int) := by omega
  have B1 := bl_step (bl_alloc (Below.refl w.heap.size w)) hb1
  have h0 : w1.cell? ⟨w.heap.size, 0, none⟩ = some (.int .i64 x) := (hb1.cell (p := ⟨w.heap.size, 0, none⟩) (by simp)).trans (by simp)
  have h1 : w1.cell? ⟨w.heap.size, 1, none⟩ = some (.slice d n e) := (hb1.cell (p := ⟨w.heap.size, 1, none⟩) (by simp)).trans (by simp)
  have hz : w.heap.size < w1.heap.size := by have := hb1.size; simp at this; omega
  have TB := hid ((t1.step (bl_alloc (o := HC y a1 k1 d1) (Below.refl w1.heap.size w1))).drew.drew)
  have SB := hid (((HS.out.grew (grew_below B1)).grew (grew_below (bl_alloc (o := HC y a1 k1 d1) (Below.refl w1.heap.size w1)))).drew.drew)
  have BB2 := hid ((bl_alloc (o := HC y a1 k1 d1) B1).drew.drew)
  have hMx : Hid (ss.length < M) := hM
  clear t1 hD hsy hC HT HK hb1 c0 HS hM
  go_wp2
  go_region
  go_wp2_with fail
  go_region_with (go_at_call 52; refine (copied_any SB.out).mono ?_; rintro e3 w3 ⟨u, rfl, hsu, hb3⟩; have T3 := TB.out.step hb3; obtain ⟨D3, hD3⟩ := T3.map; obtain ⟨w4, hst, hown4, hturn4⟩ := hD3.1.store keyLaw Try.underlying78 (by have := T3.most; unfold maxLen; omega) (key_str _ hlx) (show rv u = some (.held u, []) from rfl); have c2' := T3.c2; have HR := hid (And.intro (T3.put hD3 HCn.out hMx.out hl.out hsu hown4 hturn4.grown) (Grew.andThen (bl_step BB2.out hb3) hturn4.grown)); clear T3 hD3 hown4 hturn4 hsu hb3)
  all_goals
    go_wp2
    go_ret
    exact ⟨rfl, HR.out⟩
end Go.Proofs.Ytfpefjadlbphiab
