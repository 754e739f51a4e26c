/- word.Decode: what keeps bytes from being a program's. -/
import Derived.Test.YtcdpmpcpgijebaaGRd3
import Derived.Test.YtcdpmpcpgijebaaGEnc
import Derived.Test.YtcdpmpcpgijebaaSame
namespace Go.Proofs.Ytcdpmpcpgijebaa
open Go.RowKit

/-- what keeps bytes from being those of any program -/
def wrongB (zs : List Int) : Int × Int :=
  if zs.length < 5 then (3, zs.length) else if zs.take 3 ≠ [83, 87, 1] then (4, 0) else if zs.length < 7 + 3 * ntOf (zs.drop 3) then (3, zs.length) else if zs.length < 7 + 3 * ntOf (zs.drop 3) + 14 * ncOf (zs.drop 3) then (3, zs.length) else if 7 + 3 * ntOf (zs.drop 3) + 14 * ncOf (zs.drop 3) < zs.length then (4, ((7 + 3 * ntOf (zs.drop 3) + 14 * ncOf (zs.drop 3) : Nat) : Int)) else (0, 0)

theorem str_mark {zs : List Int} (h : GByt zs) (hl : zs.length = 3) : ((str zs).toList == [83, 87, 1]) = decide (zs = [83, 87, 1]) := by
  match zs, hl with
  | [x, y, z], _ =>
    have hx := h x (by simp)
    have hy := h y (by simp)
    have hz := h z (by simp)
    have e0 : (str [x, y, z]).toList = [UInt8.ofNat x.toNat, UInt8.ofNat y.toNat, UInt8.ofNat z.toNat] := by rw [ByteArray.toList_eq]; rfl
    rw [e0]
    by_cases e : [x, y, z] = [83, 87, 1]
    · rw [decide_eq_true e]
      simp only [List.cons.injEq, and_true] at e
      rw [e.1, e.2.1, e.2.2]
      rfl
    · rw [decide_eq_false e, beq_eq_false_iff_ne]
      intro e3
      apply e
      simp only [List.cons.injEq, and_true] at e3
      have k : ∀ (v : Int) (u : Nat), 0 ≤ v ∧ v < 256 → u < 256 → UInt8.ofNat v.toNat = UInt8.ofNat u → v = u := fun v u hv hu hh => by
        have := congrArg UInt8.toNat hh
        simp only [UInt8.toNat_ofNat'] at this
        omega
      have a1 := k x 83 hx (by decide) e3.1
      have a2 := k y 87 hy (by decide) e3.2.1
      have a3 := k z 1 hz (by decide) e3.2.2
      rw [a1, a2, a3]
      rfl

theorem num_one {zs : List Int} {i : Nat} {x : Int} (h : zs[i]? = some x) : numB ((zs.drop i).take 1) = x.toNat := by
  obtain ⟨hi, e⟩ := List.getElem?_eq_some_iff.1 h
  rw [List.drop_eq_getElem_cons hi, e]
  simp [numB]

set_option maxHeartbeats 4000000 in
set_option maxRecDepth 20000 in
theorem gwrongBytes (a : Option Addr) (n c : Nat) (zs : List Int) (w : World) (hz : Has .u8 w a n zs) (hc : n ≤ c) (hcm : c ≤ maxLen) (hn : n ≤ 1000000) : Calls Try.prog 22 #[.slice a n c] w (TellF (wrongB zs) w) := by
  have hl := hz.1
  have hby := hz.byt
  have HT : Hid (∀ f g w', (f, g) = wrongB zs → Below w.heap.size w w' → TellF (wrongB zs) w (.returned (.agg #[.int .i64 f, .int .i64 g])) w') := fun f g w' e h => ⟨by rw [← e], h⟩
  have B2 : Hid (Below w.heap.size w ((w.alloc (.cells #[.int .i64 0, .int .i64 0] 31)).alloc (.cells #[.int .i64 3, .int .i64 (n : Int)] 31))) := bl_alloc (bl_alloc (Below.refl _ _))
  have B3 : Hid (∀ u v, Below w.heap.size w ((w.alloc (.cells #[u, v] 31)).alloc (.cells #[.int .i64 3, .int .i64 (n : Int)] 31))) := fun u v => bl_alloc (bl_alloc (Below.refl _ _))
  unfold maxLen at hcm
  by_cases h5 : n < 5
  · have h5i : (n : Int) < 5 := by omega
    have E : Hid (((3 : Int), (n : Int)) = wrongB zs) := by show _ = _; unfold wrongB; rw [hl, if_pos h5]
    clear hz hl hby
    go_enter Try.func22, Try.ntmps22
    go_wp2
    exact bodyPost_ret (v := .agg #[.int .i64 3, .int .i64 (n : Int)]) (by simp [results, Try.results22, go_sem, *]) rfl (HT.out _ _ _ E.out (B3.out _ _))
  have h5i : ¬ (n : Int) < 5 := by omega
  obtain ⟨g, off, rfl, hgl, hcs⟩ := hz.some (by omega)
  have hz3 : Has .u8 ((w.alloc (.cells #[.int .i64 0, .int .i64 0] 31)).alloc (.cells #[.int .i64 3, .int .i64 (n : Int)] 31)) (some ⟨g, off, none⟩) 3 (zs.take 3) := by
    have h2 := hz.step B2.out
    refine ⟨by rw [List.length_take]; omega, fun x hx => hz.2.1 x (List.mem_of_mem_take hx), .inr ⟨g, off, rfl, ?_, fun i hi => ?_⟩⟩
    · have := B2.out.size; omega
    · obtain ⟨b', o', e, _, hc2⟩ := h2.some (by omega)
      simp only [Option.some.injEq, Addr.mk.injEq, and_true] at e
      obtain ⟨rfl, rfl⟩ := e
      rw [hc2 i (by omega)]
      simp only [List.getD_eq_getElem?_getD, List.getElem?_take, if_pos hi]
  have hcv := conv_bytes c hz3
  have hsm := str_mark (zs := zs.take 3) (fun y hy => hby y (List.mem_of_mem_take hy)) (by rw [List.length_take]; omega)
  have h3c : (3 : Nat) ≤ c := by omega
  have h3ci : (3 : Int) ≤ (c : Int) := by omega
  have h3n : (3 : Int) ≤ (n : Int) := by omega
  have hci : (c : Int) < 9223372036854775808 := by omega
  by_cases hmk : zs.take 3 = [83, 87, 1]
  rotate_left
  · have E : Hid (((4 : Int), (0 : Int)) = wrongB zs) := by show _ = _; unfold wrongB; rw [hl, if_neg h5, if_pos hmk]
    rw [decide_eq_false hmk] at hsm
    clear hz hl hby hcs hz3 hmk
    go_enter Try.func22, Try.ntmps22
    go_wp2
    exact bodyPost_ret (v := .agg #[.int .i64 4, .int .i64 0]) (by simp [results, Try.results22, go_sem, *]) rfl (HT.out _ _ _ E.out (B3.out _ _))
  rw [decide_eq_true hmk] at hsm
  obtain ⟨x4, hx4⟩ : ∃ x, zs[4]? = some x := ⟨_, List.getElem?_eq_getElem (by omega)⟩
  have hb4 := hby x4 (List.mem_of_getElem? hx4)
  have c4 := cell_keep (hcs 4 (by omega)) B2.out
  rw [List.getD_eq_getElem?_getD, hx4, Option.getD_some] at c4
  obtain ⟨nt, rfl⟩ : ∃ m : Nat, x4 = (m : Int) := ⟨x4.toNat, by omega⟩
  have ent : ntOf (zs.drop 3) = nt := by
    unfold ntOf
    rw [List.drop_drop, num_one hx4, Int.toNat_natCast]
  have h4n : (4 : Int) < (n : Int) := by omega
  have hw0 := gwrap_i (nt : Int) (by omega) (by omega)
  have hw1 := gwrap_i ((nt : Int) * 3) (by omega) (by omega)
  obtain ⟨cnt, hcnt⟩ : ∃ m : Nat, m = 5 + 3 * nt := ⟨_, rfl⟩
  have hw2 : IntKind.i64.wrap (5 + (nt : Int) * 3) = (cnt : Int) := by rw [gwrap_i _ (by omega) (by omega)]; omega
  obtain ⟨cn2, hcn2⟩ : ∃ m : Nat, m = cnt + 2 := ⟨_, rfl⟩
  have hw3 : IntKind.i64.wrap ((cnt : Int) + 2) = (cn2 : Int) := by rw [gwrap_i _ (by omega) (by omega)]; omega
  have hfirst : wrongB zs = if n < cn2 then ((3 : Int), (n : Int)) else if n < cn2 + 14 * ncOf (zs.drop 3) then (3, (n : Int)) else if cn2 + 14 * ncOf (zs.drop 3) < n then (4, ((cn2 + 14 * ncOf (zs.drop 3) : Nat) : Int)) else (0, 0) := by
    unfold wrongB
    rw [hl, if_neg h5, if_neg (by simpa using hmk), ent, show 7 + 3 * nt = cn2 by omega]
  by_cases h2 : n < cn2
  · have h2i : (n : Int) < (cn2 : Int) := by omega
    have E : Hid (((3 : Int), (n : Int)) = wrongB zs) := by show _ = _; rw [hfirst, if_pos h2]
    clear hz hl hby hcs hz3 hmk hx4 ent hfirst hcn2 hcnt hb4
    go_enter Try.func22, Try.ntmps22
    go_wp2
    exact bodyPost_ret (v := .agg #[.int .i64 3, .int .i64 (n : Int)]) (by simp [results, Try.results22, go_sem, *]) rfl (HT.out _ _ _ E.out (B3.out _ _))
  have h2i : ¬ (n : Int) < (cn2 : Int) := by omega
  rw [if_neg h2] at hfirst
  obtain ⟨W2, hW2⟩ : ∃ W2, W2 = ((w.alloc (.cells #[.int .i64 0, .int .i64 0] 31)).alloc (.cells #[.int .i64 3, .int .i64 (n : Int)] 31)) := ⟨_, rfl⟩
  obtain ⟨W3, hW3⟩ : ∃ W3, W3 = W2.alloc (.cells #[.slice (some ⟨g, off + cnt, none⟩) (n - cnt) (c - cnt)] 62) := ⟨_, rfl⟩
  obtain ⟨fb, hfb⟩ : ∃ b, b = w.heap.size := ⟨_, rfl⟩
  obtain ⟨p, hp⟩ : ∃ b, b = w.heap.size + 1 + 1 := ⟨_, rfl⟩
  have hs2 : W2.heap.size = w.heap.size + 1 + 1 := by rw [hW2]; simp
  have hzw := (hz.step B2.out)
  rw [← hW2] at hzw
  have hcut := hzw.cut cnt (by omega)
  have b3 : Below W2.heap.size W2 W3 := by rw [hW3]; exact bl_alloc (Below.refl _ _)
  have RD : GRd p (zs.drop cnt) W3 := by
    refine ⟨⟨some ⟨g, off + cnt, none⟩, c - cnt, ?_, ?_, by rw [List.length_drop]; omega, by unfold maxLen; omega, ?_⟩, by rw [List.length_drop]; omega⟩
    · rw [List.length_drop, hl, hW3, hp, ← hs2]; exact galloc_at _ _ _
    · rw [List.length_drop, hl]; exact hcut.step b3
    · intro ad had
      simp only [Option.some.injEq] at had
      subst had
      show g < p
      omega
  have enc : numB ((zs.drop cnt).take 2) = ncOf (zs.drop 3) := by
    unfold ncOf
    rw [ent, List.drop_drop, List.drop_drop, List.drop_drop, show 3 + (1 + (1 + 3 * nt)) = cnt by omega]
  have HNUM := hid (grnumber p 2 (zs.drop cnt) W3 (by decide) (by decide) RD (by rw [List.length_drop]; omega))
  rw [enc] at HNUM
  have hncb : ncOf (zs.drop 3) < 65536 := by
    rw [← enc]
    exact numB_small (k := 2) (fun y hy => hby y (List.mem_of_mem_drop (List.mem_of_mem_take hy))) (by rw [List.length_take]; omega)
  generalize ncOf (zs.drop 3) = nc at *
  have FB : Hid (∀ w', GRn p W3 w' → w'.cell? ⟨fb, 0, none⟩ = some (.int .i64 0) ∧ w'.cell? ⟨fb, 1, none⟩ = some (.int .i64 0) ∧ w'.frozen? ⟨fb, 0, none⟩ = false ∧ w'.frozen? ⟨fb, 1, none⟩ = false ∧ fb < w'.heap.size ∧ w'.cell? ⟨fb + 1, 0, none⟩ = some (.int .i64 3) ∧ w'.cell? ⟨fb + 1, 1, none⟩ = some (.int .i64 (n : Int)) ∧ ∀ u v, Below w.heap.size w ((w'.setCell ⟨fb, 0, none⟩ u).setCell ⟨fb, 1, none⟩ v)) := by
    intro w' r
    have a1 : W3.heap[fb]? = some (.cells #[.int .i64 0, .int .i64 0] 31 (0, 0)) := by
      rw [b3.block fb (by omega), hW2, hfb]
      have b2 : Below (w.alloc (.cells #[.int .i64 0, .int .i64 0] 31)).heap.size (w.alloc (.cells #[.int .i64 0, .int .i64 0] 31)) ((w.alloc (.cells #[.int .i64 0, .int .i64 0] 31)).alloc (.cells #[.int .i64 3, .int .i64 (n : Int)] 31)) := bl_alloc (Below.refl _ _)
      rw [b2.block w.heap.size (by simp)]
      exact galloc_at _ _ _
    have a2 : W3.heap[fb + 1]? = some (.cells #[.int .i64 3, .int .i64 (n : Int)] 31 (0, 0)) := by
      rw [b3.block (fb + 1) (by omega), hW2, hfb]
      have := galloc_at (w.alloc (.cells #[.int .i64 0, .int .i64 0] 31)) #[.int .i64 3, .int .i64 (n : Int)] 31
      simpa using this
    have s3 := b3.size
    have k1 := (r.block fb (by omega) (by omega)).trans a1
    have k2 := (r.block (fb + 1) (by omega) (by omega)).trans a2
    refine ⟨gbox_cell k1 0, gbox_cell k1 1, by simp [World.frozen?, k1], by simp [World.frozen?, k1], (Array.getElem?_eq_some_iff.1 k1).1, gbox_cell k2 0, gbox_cell k2 1, fun u v => ?_⟩
    have bw : Below w.heap.size w W3 := bl_step (by rw [hW2]; exact B2.out) b3
    have bw2 := bw.trans (r.low (B := w.heap.size) (by omega) (by omega))
    exact (bw2.setCell (p := ⟨fb, 0, none⟩) (by show w.heap.size ≤ fb; omega) _).setCell (p := ⟨fb, 1, none⟩) (by show w.heap.size ≤ fb; omega) _
  have hcc : ¬ c = cnt := by omega
  have hcle : (cnt : Int) ≤ (n : Int) := by omega
  have hclc : (cnt : Int) ≤ (c : Int) := by omega
  have hcl0 : cnt ≤ n := by omega
  have hcl1 : cnt ≤ c := by omega
  have EW3 : Hid (W3 = ((w.alloc (.cells #[.int .i64 0, .int .i64 0] 31)).alloc (.cells #[.int .i64 3, .int .i64 (n : Int)] 31)).alloc (.cells #[.slice (some ⟨g, off + cnt, none⟩) (n - cnt) (c - cnt)] 62)) := by show _ = _; rw [hW3, hW2]
  have EP := hid hp
  have EFB := hid hfb
  have HFI := hid hfirst
  have hw4 := gwrap_i ((nc : Int) * 14) (by omega) (by omega)
  obtain ⟨en, hen⟩ : ∃ m : Nat, m = cn2 + 14 * nc := ⟨_, rfl⟩
  have hw5 : IntKind.i64.wrap ((cn2 : Int) + (nc : Int) * 14) = (en : Int) := by rw [gwrap_i _ (by omega) (by omega)]; omega
  rw [← hen] at HFI
  have HCN := hid hcn2
  clear hz hl hby hcs hz3 hmk hx4 ent hfirst hcn2 hcnt hb4 hW2 hW3 hfb hp hs2 hzw hcut b3 RD enc hncb hen h2
  go_enter Try.func22, Try.ntmps22
  go_wp2_with fail
  rw [← EW3.out, ← EP.out, ← EFB.out]
  refine HNUM.out.mono ?_
  rintro e w4 ⟨rfl, hr, hn4⟩
  obtain ⟨y0, y1, y2, y3, yl, y4, y5, HB6⟩ := FB.out w4 hn4
  have HB := hid HB6
  clear HNUM EW3 EP EFB FB hr hn4 HB6 hcv hsm c4
  by_cases q1 : n < en
  · have q1i : (n : Int) < (en : Int) := by omega
    have E : Hid (((3 : Int), (n : Int)) = wrongB zs) := by show _ = _; rw [HFI.out, if_pos q1]
    go_wp2
    exact bodyPost_ret (v := .agg #[.int .i64 3, .int .i64 (n : Int)]) (by simp [results, Try.results22, go_sem, *]) rfl (HT.out _ _ _ E.out (HB.out _ _))
  have q1i : ¬ (n : Int) < (en : Int) := by omega
  by_cases q2 : en < n
  · have q2i : (en : Int) < (n : Int) := by omega
    have E : Hid (((4 : Int), (en : Int)) = wrongB zs) := by show _ = _; rw [HFI.out, if_neg q1, if_pos q2]
    go_wp2
    exact bodyPost_ret (v := .agg #[.int .i64 4, .int .i64 (en : Int)]) (by simp [results, Try.results22, go_sem, *]) rfl (HT.out _ _ _ E.out (HB.out _ _))
  · have q2i : ¬ (en : Int) < (n : Int) := by omega
    have E : Hid (((0 : Int), (0 : Int)) = wrongB zs) := by show _ = _; rw [HFI.out, if_neg q1, if_neg q2]
    go_wp2
    exact bodyPost_ret (v := .agg #[.int .i64 0, .int .i64 0]) (by simp [results, Try.results22, go_sem, *]) rfl (HT.out _ _ _ E.out (HB.out _ _))
end Go.Proofs.Ytcdpmpcpgijebaa
