/- Texts of one chain, joined: ZFrame. -/
import Derived.Test.YtedeiaokohdhpaaGreatG23
import Derived.Laws.BytesArg
namespace Go.Proofs.YtedeiaokohdhpaaGreat
open Go.RowKit
theorem conv_has {w : World} {a : Option Addr} {n c : Nat} {xs : List Int} (h : Has .u8 w a n xs) (h0 : 0 < n) : (convert 30 9 (.slice a n c)).run Tryz.prog w = .ok (.string (strOfNums xs)) w := by
  obtain ⟨b, off, rfl, _, hc⟩ := h.some h0
  exact run_convert_bytes_arg w 30 5 Tryz.underlying30 Tryz.underlying5 b off n c xs h.1 hc 9 Tryz.underlying9
theorem str_inj {xs ys : List Int} (hx : Mth.Byt xs) (hy : Mth.Byt ys) (h : strOfNums xs = strOfNums ys) : xs = ys := by
  have h1 : xs.map (fun n => UInt8.ofNat n.toNat) = ys.map (fun n => UInt8.ofNat n.toNat) := by
    rw [← strOfNums_data xs, ← strOfNums_data ys, h]
  have hl : xs.length = ys.length := by simpa using congrArg List.length h1
  refine List.ext_getElem hl fun i hi hj => ?_
  have h2 : (xs.map (fun n => UInt8.ofNat n.toNat))[i]? = (ys.map (fun n => UInt8.ofNat n.toNat))[i]? := by rw [h1]
  simp only [List.getElem?_map, List.getElem?_eq_getElem hi, List.getElem?_eq_getElem hj, Option.map_some, Option.some.injEq] at h2
  have h3 := congrArg UInt8.toNat h2
  have b1 := hx _ (List.getElem_mem hi)
  have b2 := hy _ (List.getElem_mem hj)
  simp only [UInt8.toNat_ofNat'] at h3
  omega
theorem str_eq {xs ys : List Int} (hx : Mth.Byt xs) (hy : Mth.Byt ys) : ((strOfNums xs).toList == (strOfNums ys).toList) = decide (xs = ys) := by
  by_cases e : xs = ys
  · subst e; simp
  · rw [decide_eq_false e, beq_eq_false_iff_ne]
    intro h
    rw [ByteArray.toList_eq, ByteArray.toList_eq] at h
    refine e (str_inj hx hy ?_)
    have h2 : (strOfNums xs).data = (strOfNums ys).data := Array.toList_inj.1 h
    unfold strOfNums at h2 ⊢
    rw [ByteArray.mk.injEq]
    exact h2
set_option maxHeartbeats 2000000 in
set_option maxRecDepth 20000 in
theorem equal_any (a a' : Option Addr) (n n' c c' : Nat) (xs ys : List Int) (w : World) (hx : Has .u8 w a n xs) (hy : Has .u8 w a' n' ys) (h0 : 0 < n) (h1 : 0 < n') :
    Calls Tryz.prog 72 #[.slice a n c, .slice a' n' c'] w fun e w' => e = .returned (.bool (decide (xs = ys))) ∧ w' = w := by
  have r1 := conv_has (c := c) hx h0
  have r2 := conv_has (c := c') hy h1
  have e := str_eq (byt_of hx) (byt_of hy)
  clear hx hy
  go_enter Tryz.func72, Tryz.ntmps72
  go_wp2
  go_ret
  exact ⟨by rw [← e]; rfl, rfl⟩
def frameF (zs : List Int) : Int × Int :=
  if zs.length < 7 then (3, (zs.length : Int)) else if 8000 < zs.length then (14, 8000) else if zs.take 3 ≠ [83, 89, 1] then (4, 0) else if zs.drop (zs.length - 4) ≠ Mth.four (Mth.crc (zs.take (zs.length - 4))) then (19, ((zs.length - 4 : Nat) : Int)) else (0, 0)
theorem zhas_take {w : World} {a : Option Addr} {n : Nat} {zs : List Int} (h : Has .u8 w a n zs) (k : Nat) (hk : k ≤ n) : Has .u8 w a k (zs.take k) := by
  refine ⟨by rw [List.length_take, h.1]; omega, fun x hx => h.2.1 x (List.mem_of_mem_take hx), ?_⟩
  rcases h.2.2 with e | ⟨b, off, e, hb, hc⟩
  · exact .inl (by rw [e]; simp)
  · refine .inr ⟨b, off, e, hb, fun i hi => ?_⟩
    rw [hc i (by omega)]
    simp only [List.getD_eq_getElem?_getD, List.getElem?_take_of_lt hi]
theorem zhas_drop {w : World} {b off n : Nat} {zs : List Int} (h : zs.length = n) (hw : ∀ x ∈ zs, (Lit.int .u8 x).wf = true) (hb : b < w.heap.size) (hc : ∀ i, i < n → w.cell? ⟨b, off + i, none⟩ = some (.int .u8 (zs.getD i 0))) (k m : Nat) (hk : k + m = n) : Has .u8 w (some ⟨b, off + k, none⟩) m (zs.drop k) := by
  refine ⟨by rw [List.length_drop, h]; omega, fun x hx => hw x (List.mem_of_mem_drop hx), .inr ⟨b, off + k, rfl, hb, fun i hi => ?_⟩⟩
  rw [show off + k + i = off + (k + i) by omega, hc (k + i) (by omega)]
  simp only [List.getD_eq_getElem?_getD, List.getElem?_drop]
theorem mark_eq (zs : List Int) (hz : Mth.Byt zs) : ((strOfNums zs).toList == [83, 89, 1]) = decide (zs = [83, 89, 1]) := by
  have h : (strOfNums [83, 89, 1]).toList = [83, 89, 1] := by rw [ByteArray.toList_eq]; rfl
  rw [← h]
  exact str_eq hz (by intro x hx; simp only [List.mem_cons, List.not_mem_nil, or_false] at hx; rcases hx with rfl | rfl | rfl <;> decide)
def FrameDone (w : World) (zs : List Int) (e : Ending) (w' : World) : Prop := e = .returned (.agg #[.int .i64 (frameF zs).1, .int .i64 (frameF zs).2]) ∧ Below w.heap.size w w'
set_option maxHeartbeats 8000000 in
set_option maxRecDepth 20000 in
theorem frame_any (a : Option Addr) (n c : Nat) (zs : List Int) (w : World) (hn : n ≤ 10000000) (hnc : n ≤ c) (hz : Has .u8 w a n zs) :
    Calls Tryz.prog 31 #[.slice a n c] w (FrameDone w zs) := by
  have hl := hz.1
  have HB : Hid (∀ o, Below w.heap.size w (w.alloc o)) := fun o => bl_alloc (Below.refl _ _)
  have HR : ∀ X : Int × Int, frameF zs = X → Hid (∀ w', Below w.heap.size w w' → FrameDone w zs (.returned (.agg #[.int .i64 X.1, .int .i64 X.2])) w') := fun X e w' h => ⟨by rw [e], h⟩
  by_cases h7 : n < 7
  · have HE := HR (3, (n : Int)) (by unfold frameF; rw [if_pos (by omega), hl])
    have h7i : (n : Int) < 7 := by omega
    clear HR hz hl hnc
    go_enter Tryz.func31, Tryz.ntmps31
    go_wp2
    exact bodyPost_ret (v := .agg #[.int .i64 3, .int .i64 (n : Int)]) (by simp [results, Tryz.results31, go_sem]) rfl (HE.out _ (HB.out _))
  have h7i : ¬ (n : Int) < 7 := by omega
  by_cases h8 : 8000 < n
  · have HE := HR (14, 8000) (by unfold frameF; rw [if_neg (by omega), if_pos (by omega)])
    have h8i : (8000 : Int) < (n : Int) := by omega
    clear HR hz hl hnc
    go_enter Tryz.func31, Tryz.ntmps31
    go_wp2
    exact bodyPost_ret (v := .agg #[.int .i64 14, .int .i64 8000]) (by simp [results, Tryz.results31, go_sem]) rfl (HE.out _ (HB.out _))
  have h8i : ¬ (8000 : Int) < (n : Int) := by omega
  obtain ⟨b, off, rfl, hbl, hcell⟩ := hz.some (by omega)
  have hz3 := zhas_take hz 3 (by omega)
  have r3 : ∀ o c', (convert 30 9 (.slice (some ⟨b, off, none⟩) 3 c')).run Tryz.prog (w.alloc o) = .ok (.string (strOfNums (zs.take 3))) (w.alloc o) := fun o c' => conv_has (hz3.alloc (o := o)) (by decide)
  have e3 := mark_eq (zs.take 3) (fun x hx => byt_of hz x (List.mem_of_mem_take hx))
  by_cases hm : zs.take 3 = [83, 89, 1]
  · rw [decide_eq_true hm] at e3
    obtain ⟨m, rfl⟩ : ∃ m, n = m + 4 := ⟨n - 4, by omega⟩
    have hl4 : zs.length - 4 = m := by omega
    have h7j : ¬ (m : Int) + 4 < 7 := by omega
    have h8j : ¬ (8000 : Int) < (m : Int) + 4 := by omega
    have hci : (3 : Int) ≤ (c : Int) := by omega
    have hcm : ¬ c = m := by omega
    have hmc : (m : Int) ≤ (c : Int) := by omega
    have hmm : (m : Int) ≤ (m : Int) + 4 := by omega
    have HS : Hid (∀ w', Below w.heap.size w w' → Calls Tryz.prog 21 #[.slice (some ⟨b, off, none⟩) m c] w' (SumDone w' (zs.take m))) := fun w' h => sumBytes_any _ m c _ w' (by omega) ((zhas_take hz m (by omega)).step h)
    have HQ : Hid (∀ w' a6 c6, Below w.heap.size w w' → Has .u8 w' a6 4 (Mth.four (Mth.crc (zs.take m))) → Calls Tryz.prog 72 #[.slice (some ⟨b, off + m, none⟩) 4 (c - m), .slice a6 4 c6] w' fun e w'' => e = .returned (.bool (decide (zs.drop m = Mth.four (Mth.crc (zs.take m))))) ∧ w'' = w') := fun w' a6 c6 h h6 => equal_any _ _ 4 4 _ _ _ _ w' ((zhas_drop hl hz.2.1 hbl hcell m 4 rfl).step h) h6 (by decide) (by decide)
    have HX : Hid (frameF zs = if zs.drop m = Mth.four (Mth.crc (zs.take m)) then (0, 0) else (19, (m : Int))) := by
      show _ = _
      unfold frameF
      rw [if_neg (by omega), if_neg (by omega), if_neg (fun h => h hm), hl4]
      by_cases hd : zs.drop m = Mth.four (Mth.crc (zs.take m))
      · rw [if_pos hd, if_neg (fun h => h hd)]
      · rw [if_neg hd, if_pos hd]
    obtain ⟨D, hD⟩ : ∃ D, D = decide (zs.drop m = Mth.four (Mth.crc (zs.take m))) := ⟨_, rfl⟩
    rw [← hD] at HQ
    have HDD := hid hD
    clear hD
    have HBD : Hid (∀ o, Below w.heap.size w (w.alloc o).drew) := fun o => (bl_alloc (Below.refl _ _)).drew
    have HF : Hid (∀ o, (w.alloc o).drew.heap.size = w.heap.size + 1) := fun o => by simp
    have fz : ∀ w' : World, Below (w.heap.size + 1) ((w.alloc (.cells #[.int .i64 0, .int .i64 0] 35)).drew) w' → w'.cell? ⟨w.heap.size, 0, none⟩ = some (.int .i64 0) ∧ w'.cell? ⟨w.heap.size, 1, none⟩ = some (.int .i64 0) ∧ w'.frozen? ⟨w.heap.size, 0, none⟩ = false ∧ w'.frozen? ⟨w.heap.size, 1, none⟩ = false := fun w' h => ⟨(h.cell (p := ⟨w.heap.size, 0, none⟩) (Nat.lt_succ_self _)).trans ((World.cell?_alloc_at _ _ _ _ rfl).trans rfl), (h.cell (p := ⟨w.heap.size, 1, none⟩) (Nat.lt_succ_self _)).trans ((World.cell?_alloc_at _ _ _ _ rfl).trans rfl), (h.frozen (p := ⟨w.heap.size, 0, none⟩) (Nat.lt_succ_self _)).trans (World.frozen?_alloc_at _ _ _ _ rfl), (h.frozen (p := ⟨w.heap.size, 1, none⟩) (Nat.lt_succ_self _)).trans (World.frozen?_alloc_at _ _ _ _ rfl)⟩
    have FZ := hid fz
    clear hz hl hcell hbl hm hz3 hl4 h7 h7i h8 h8i hn hnc fz
    go_enter Tryz.func31, Tryz.ntmps31
    go_wp2_with fail
    go_region_with (first
      | (go_at_call 21; refine (HS.out _ (HBD.out _)).mono ?_; rintro e w6 ⟨a6, c6, rfl, hh6, hb6⟩)
      | (go_at_call 72; refine (HQ.out _ _ _ (bl_step (HBD.out _) hb6) hh6).mono ?_; rintro e w7 ⟨rfl, rfl⟩))
    all_goals
      have hb6' := hb6
      rw [HF.out] at hb6'
      obtain ⟨y0, y1, z0, z1⟩ := FZ.out _ hb6'
      have HE := hid (bl_step (HBD.out _) hb6)
      clear HS HQ HBD HF FZ hh6 hb6 hb6' HB
      clear e3 r3 h7j h8j hci hcm hmc hmm
      cases D with
      | true =>
        have HY := HR (0, 0) (by rw [HX.out, if_pos (of_decide_eq_true HDD.out.symm)])
        clear HR HX HDD
        go_wp2
        exact bodyPost_ret (v := .agg #[.int .i64 0, .int .i64 0]) (by simp [results, Tryz.results31, go_sem, *]) rfl (HY.out _ ((HE.out.setCell (p := ⟨w.heap.size, 0, none⟩) (Nat.le_refl _) _).setCell (p := ⟨w.heap.size, 1, none⟩) (Nat.le_refl _) _))
      | false =>
        have HY := HR (19, (m : Int)) (by rw [HX.out, if_neg (of_decide_eq_false HDD.out.symm)])
        clear HR HX HDD
        go_wp2
        exact bodyPost_ret (v := .agg #[.int .i64 19, .int .i64 (m : Int)]) (by simp [results, Tryz.results31, go_sem, *]) rfl (HY.out _ ((HE.out.setCell (p := ⟨w.heap.size, 0, none⟩) (Nat.le_refl _) _).setCell (p := ⟨w.heap.size, 1, none⟩) (Nat.le_refl _) _))
  · have HE := HR (4, 0) (by unfold frameF; rw [if_neg (by omega), if_neg (by omega), if_pos hm])
    rw [decide_eq_false hm] at e3
    have hci : (3 : Int) ≤ (c : Int) := by omega
    clear HR hz hl hcell hbl hm hz3
    go_enter Tryz.func31, Tryz.ntmps31
    go_wp2
    exact bodyPost_ret (v := .agg #[.int .i64 4, .int .i64 0]) (by simp [results, Tryz.results31, go_sem]) rfl (HE.out _ (HB.out _))
end Go.Proofs.YtedeiaokohdhpaaGreat
