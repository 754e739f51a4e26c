/- guard's registers: known, same, least, hasRoom, withRoom, bin, numbered, join. -/
import Derived.Test.YtjmlkaciibdpaaaHDef
import Derived.Test.YtjmlkaciibdpaaaQQuiet
import Derived.Test.YtjmlkaciibdpaaaYCutQ
import Derived.Deep.RegionHeld3
namespace Go.Proofs.Ytjmlkaciibdpaaa
open Go.RowKit

@[reducible] def mayV (o : Option Nat) : Value := .agg #[.bool o.isSome, .int .u64 ((o.getD 0 : Nat) : Int)]
@[reducible] def regV (r : RD) : Value := .agg #[.bool r.set, .bool r.just.isSome, .int .u64 ((r.just.getD 0 : Nat) : Int), .bool r.room.isSome, .int .u64 ((r.room.getD 0 : Nat) : Int)]
/-- it tells a value, and nothing old has turned -/
def TellV (v : Value) (w : World) (e : Ending) (w' : World) : Prop := e = .returned v ∧ Below w.heap.size w w'

/-- a block's whole content -/
def BoxC (W : World) (rb : Nat) (cs : Array Value) (T : TypeId) : Prop := W.heap[rb]? = some (.cells cs T (0, 0))
theorem BoxC.step {W W' : World} {rb : Nat} {cs : Array Value} {T : TypeId} (h : BoxC W rb cs T) (b : Below W.heap.size W W') : BoxC W' rb cs T := (b.block rb (Array.getElem?_eq_some_iff.1 h).1).trans h
theorem BoxC.cell {W : World} {rb : Nat} {cs : Array Value} {T : TypeId} (h : BoxC W rb cs T) (i : Nat) : W.cell? ⟨rb, i, none⟩ = cs[i]? := gbox_cell h i
theorem BoxC.fz {W : World} {rb : Nat} {cs : Array Value} {T : TypeId} (h : BoxC W rb cs T) (i : Nat) : W.frozen? ⟨rb, i, none⟩ = false := by
  have h : W.heap[rb]? = some (.cells cs T (0, 0)) := h
  simp [World.frozen?, h]
theorem BoxC.lt {W : World} {rb : Nat} {cs : Array Value} {T : TypeId} (h : BoxC W rb cs T) : rb < W.heap.size := (Array.getElem?_eq_some_iff.1 h).1
theorem boxc_new {w : World} (cs : Array Value) (T : TypeId) (n : Nat) (h : w.heap.size = n) : BoxC (w.alloc (.cells cs T)) n cs T := by
  subst h
  exact heap_alloc_new w _
theorem hput1 {w W : World} {rb : Nat} (b : Below w.heap.size w W) (h : w.heap.size ≤ rb) (i : Nat) (u : Value) : Below w.heap.size w (W.setCell ⟨rb, i, none⟩ u) := b.setCell (p := ⟨rb, i, none⟩) h _
theorem hput2 {w W : World} {rb : Nat} (b : Below w.heap.size w W) (h : w.heap.size ≤ rb) (u v : Value) : Below w.heap.size w ((W.setCell ⟨rb, 0, none⟩ u).setCell ⟨rb, 1, none⟩ v) := hput1 (hput1 b h 0 u) h 1 v

theorem hput5 {w W : World} {rb : Nat} (b : Below w.heap.size w W) (h : w.heap.size ≤ rb) (u0 u1 u2 u3 u4 : Value) : Below w.heap.size w (((((W.setCell ⟨rb, 0, none⟩ u0).setCell ⟨rb, 1, none⟩ u1).setCell ⟨rb, 2, none⟩ u2).setCell ⟨rb, 3, none⟩ u3).setCell ⟨rb, 4, none⟩ u4) := hput1 (hput1 (hput1 (hput1 (hput1 b h 0 u0) h 1 u1) h 2 u2) h 3 u3) h 4 u4

set_option maxHeartbeats 1000000 in
set_option maxRecDepth 20000 in
theorem hknown (n : Int) (w : World) : Calls Try.prog 50 #[.int .u64 n] w (TellV (.agg #[.bool true, .int .u64 n]) w) := by
  go_enter Try.func50, Try.ntmps50
  go_wp2
  exact bodyPost_ret (v := .agg #[.bool true, .int .u64 n]) (by simp [results, Try.results50, go_sem, *]) rfl ⟨rfl, bl_alloc (Below.refl _ _)⟩

@[reducible] def mayR (b : Bool) (x : Int) : Value := .agg #[.bool b, .int .u64 x]

set_option maxHeartbeats 2000000 in
set_option maxRecDepth 20000 in
theorem hsameR (a b : Bool) (x y : Int) (w : World) : Calls Try.prog 52 #[mayR a x, mayR b y] w (TellV (if a = b ∧ x = y then mayR a x else mayR false 0) w) := by
  have HB : Hid (∀ v o1 o2 o3, TellV v w (.returned v) (((w.alloc o1).alloc o2).alloc o3)) := fun _ _ _ _ => ⟨rfl, bl_alloc (bl_alloc (bl_alloc (Below.refl _ _)))⟩
  by_cases h : a = b ∧ x = y
  · rw [if_pos h]
    obtain ⟨rfl, rfl⟩ := h
    have h1 : (x == x) = true := by simp
    have h2 : (a == a) = true := by simp
    go_enter Try.func52, Try.ntmps52
    go_wp2
    exact bodyPost_ret (v := mayR a x) (by simp [results, Try.results52, go_sem, *]) rfl (HB.out _ _ _ _)
  · rw [if_neg h]
    by_cases e : a = b
    · subst e
      have h1 : ¬ x = y := fun e2 => h ⟨rfl, e2⟩
      clear h
      go_enter Try.func52, Try.ntmps52
      go_wp2
      exact bodyPost_ret (v := mayR false 0) (by simp [results, Try.results52, go_sem, *]) rfl (HB.out _ _ _ _)
    · clear h
      go_enter Try.func52, Try.ntmps52
      go_wp2
      exact bodyPost_ret (v := mayR false 0) (by simp [results, Try.results52, go_sem, *]) rfl (HB.out _ _ _ _)

theorem hsame (a b : Option Nat) (w : World) : Calls Try.prog 52 #[mayV a, mayV b] w (TellV (mayV (sameO a b)) w) := by
  have h := hsameR a.isSome b.isSome ((a.getD 0 : Nat) : Int) ((b.getD 0 : Nat) : Int) w
  have e : (if a.isSome = b.isSome ∧ ((a.getD 0 : Nat) : Int) = ((b.getD 0 : Nat) : Int) then mayR a.isSome ((a.getD 0 : Nat) : Int) else mayR false 0) = mayV (sameO a b) := by
    unfold sameO
    cases a with
    | none => cases b <;> simp
    | some a =>
      cases b with
      | none => simp
      | some b =>
        by_cases e : a = b
        · simp [e]
        · have : ¬ ((a : Int) = (b : Int)) := by omega
          simp [e, this]
  rw [e] at h
  exact h

set_option maxHeartbeats 2000000 in
set_option maxRecDepth 20000 in
theorem hleastR (a b : Bool) (x y : Nat) (w : World) : Calls Try.prog 53 #[mayR a (x : Int), mayR b (y : Int)] w (TellV (if (a && b) = true then mayR true ((min x y : Nat) : Int) else mayR false 0) w) := by
  have HB : Hid (∀ v o1 o2 o3, TellV v w (.returned v) (((w.alloc o1).alloc o2).alloc o3)) := fun _ _ _ _ => ⟨rfl, bl_alloc (bl_alloc (bl_alloc (Below.refl _ _)))⟩
  cases a with
  | false =>
    rw [Bool.false_and, if_neg (by decide)]
    go_enter Try.func53, Try.ntmps53
    go_wp2
    exact bodyPost_ret (v := mayR false 0) (by simp [results, Try.results53, go_sem, *]) rfl (HB.out _ _ _ _)
  | true =>
    cases b with
    | false =>
      rw [Bool.and_false, if_neg (by decide)]
      go_enter Try.func53, Try.ntmps53
      go_wp2
      exact bodyPost_ret (v := mayR false 0) (by simp [results, Try.results53, go_sem, *]) rfl (HB.out _ _ _ _)
    | true =>
      rw [Bool.and_true, if_pos rfl]
      have HK := hid (fun n w => hknown n w)
      obtain ⟨W3, hW3⟩ : ∃ W3, W3 = (((w.alloc (.cells #[.bool true, .int .u64 (x : Int)] 43)).alloc (.cells #[.bool true, .int .u64 (y : Int)] 43)).alloc (.cells #[.bool false, .int .u64 0] 43)) := ⟨_, rfl⟩
      obtain ⟨rb, hrb⟩ : ∃ rb, rb = w.heap.size + 1 + 1 := ⟨_, rfl⟩
      have HB3 : Hid (Below w.heap.size w W3) := by rw [hW3]; exact bl_alloc (bl_alloc (bl_alloc (Below.refl _ _)))
      have HR : Hid (BoxC W3 rb #[.bool false, .int .u64 0] 43) := by rw [hW3, hrb]; exact boxc_new _ _ _ (by simp)
      have HL : Hid (w.heap.size ≤ rb) := by rw [hrb]; show _ ≤ _; omega
      have EW := hid hW3
      have ER := hid hrb
      clear hW3 hrb
      by_cases h : y < x
      · rw [show min x y = y by omega]
        go_enter Try.func53, Try.ntmps53
        go_wp2_with fail
        rw [← EW.out, ← ER.out]
        refine (HK.out _ _).mono ?_
        rintro e w4 ⟨rfl, hb⟩
        have HR4 := HR.out.step hb
        have c0 : w4.cell? ⟨rb, 0, none⟩ = some (.bool false) := HR4.cell 0
        have c1 : w4.cell? ⟨rb, 1, none⟩ = some (.int .u64 0) := HR4.cell 1
        have f0 := HR4.fz 0
        have f1 := HR4.fz 1
        have hl := HR4.lt
        have B4 := hid (bl_step HB3.out hb)
        clear HR4 hb
        go_wp2
        exact bodyPost_ret (v := mayR true (y : Int)) (by simp [results, Try.results53, go_sem, *]) rfl ⟨rfl, hput2 B4.out HL.out _ _⟩
      · rw [show min x y = x by omega]
        go_enter Try.func53, Try.ntmps53
        go_wp2_with fail
        rw [← EW.out, ← ER.out]
        refine (HK.out _ _).mono ?_
        rintro e w4 ⟨rfl, hb⟩
        have HR4 := HR.out.step hb
        have c0 : w4.cell? ⟨rb, 0, none⟩ = some (.bool false) := HR4.cell 0
        have c1 : w4.cell? ⟨rb, 1, none⟩ = some (.int .u64 0) := HR4.cell 1
        have f0 := HR4.fz 0
        have f1 := HR4.fz 1
        have hl := HR4.lt
        have B4 := hid (bl_step HB3.out hb)
        clear HR4 hb
        go_wp2
        exact bodyPost_ret (v := mayR true (x : Int)) (by simp [results, Try.results53, go_sem, *]) rfl ⟨rfl, hput2 B4.out HL.out _ _⟩

theorem hleast (a b : Option Nat) (w : World) : Calls Try.prog 53 #[mayV a, mayV b] w (TellV (mayV (leastO a b)) w) := by
  have h := hleastR a.isSome b.isSome (a.getD 0) (b.getD 0) w
  have e : (if (a.isSome && b.isSome) = true then mayR true ((min (a.getD 0) (b.getD 0) : Nat) : Int) else mayR false 0) = mayV (leastO a b) := by
    cases a with
    | none => cases b <;> simp [leastO]
    | some a => cases b <;> simp [leastO]
  rw [e] at h
  exact h

@[reducible] def regR (s ji : Bool) (jn : Int) (ri : Bool) (rn : Int) : Value := .agg #[.bool s, .bool ji, .int .u64 jn, .bool ri, .int .u64 rn]

set_option maxHeartbeats 2000000 in
set_option maxRecDepth 20000 in
theorem hhasR (s ji : Bool) (jn : Int) (ri : Bool) (rn n : Nat) (w : World) : Calls Try.prog 37 #[regR s ji jn ri (rn : Int), .int .u64 (n : Int)] w (TellB (ri && decide (n ≤ rn)) w) := by
  have HB : Hid (∀ q o1, TellB q w (.returned (.bool q)) (w.alloc o1)) := fun _ _ => ⟨rfl, bl_alloc (Below.refl _ _)⟩
  cases ri with
  | false =>
    rw [Bool.false_and]
    go_enter Try.func37, Try.ntmps37
    go_wp2
    go_ret
    exact HB.out _ _
  | true =>
    rw [Bool.true_and]
    by_cases h : n ≤ rn
    · have hi : (n : Int) ≤ (rn : Int) := by omega
      rw [decide_eq_true h]
      go_enter Try.func37, Try.ntmps37
      go_wp2
      go_ret
      exact HB.out _ _
    · have hi : ¬ (n : Int) ≤ (rn : Int) := by omega
      rw [decide_eq_false h]
      go_enter Try.func37, Try.ntmps37
      go_wp2
      go_ret
      exact HB.out _ _

theorem hhas (r : RD) (n : Nat) (w : World) : Calls Try.prog 37 #[regV r, .int .u64 (n : Int)] w (TellB (r.has n) w) := by
  have h := hhasR r.set r.just.isSome ((r.just.getD 0 : Nat) : Int) r.room.isSome (r.room.getD 0) n w
  have e : (r.room.isSome && decide (n ≤ r.room.getD 0)) = r.has n := by
    unfold RD.has
    cases r.room <;> simp
  rw [e] at h
  exact h

set_option maxHeartbeats 2000000 in
set_option maxRecDepth 20000 in
theorem hmoreR (s ji : Bool) (jn : Int) (ri : Bool) (rn n : Nat) (w : World) : Calls Try.prog 43 #[regR s ji jn ri (rn : Int), .int .u64 (n : Int)] w (TellV (if (ri && decide (n ≤ rn)) = true then regR s ji jn ri (rn : Int) else regR s ji jn true (n : Int)) w) := by
  obtain ⟨R, hR⟩ : ∃ R, R = (if (ri && decide (n ≤ rn)) = true then regR s ji jn ri (rn : Int) else regR s ji jn true (n : Int)) := ⟨_, rfl⟩
  rw [← hR]
  have ERR := hid hR
  clear hR
  have HK := hid (fun n w => hknown n w)
  have HH := hid (fun w => hhasR s ji jn ri rn n w)
  obtain ⟨W3, hW3⟩ : ∃ W3, W3 = ((w.alloc (.cells #[.bool s, .bool ji, .int .u64 jn, .bool ri, .int .u64 (rn : Int)] 45)).alloc (.cells #[.bool false, .bool false, .int .u64 0, .bool false, .int .u64 0] 45)) := ⟨_, rfl⟩
  obtain ⟨sb, hsb⟩ : ∃ rb, rb = w.heap.size := ⟨_, rfl⟩
  obtain ⟨rb, hrb⟩ : ∃ rb, rb = w.heap.size + 1 := ⟨_, rfl⟩
  have HB3 : Hid (Below w.heap.size w W3) := by rw [hW3]; exact bl_alloc (bl_alloc (Below.refl _ _))
  have HR : Hid (BoxC W3 rb #[.bool false, .bool false, .int .u64 0, .bool false, .int .u64 0] 45) := by rw [hW3, hrb]; exact boxc_new _ _ _ (by simp)
  have HS : Hid (BoxC W3 sb #[.bool s, .bool ji, .int .u64 jn, .bool ri, .int .u64 (rn : Int)] 45) := by
    rw [hW3, hsb]
    exact BoxC.step (boxc_new _ _ _ rfl) (bl_alloc (Below.refl _ _))
  have HL : Hid (w.heap.size ≤ rb) := by rw [hrb]; show _ ≤ _; omega
  have HLS : Hid (w.heap.size ≤ sb) := by rw [hsb]; exact Nat.le_refl _
  have hne : ¬ rb = sb := by omega
  have hne' : ¬ sb = rb := by omega
  have EW := hid hW3
  have ER := hid hrb
  have ES := hid hsb
  clear hW3 hrb hsb
  go_enter Try.func43, Try.ntmps43
  go_wp2_with fail
  rw [← EW.out, ← ER.out, ← ES.out]
  refine (HH.out _).mono ?_
  rintro e w4 ⟨rfl, hb⟩
  have HR4 := HR.out.step hb
  have HS4 := HS.out.step hb
  have B4 := hid (bl_step HB3.out hb)
  clear hb EW ER ES HR HS HB3 HH
  by_cases h : (ri && decide (n ≤ rn)) = true
  · have eR : R = regR s ji jn ri (rn : Int) := by rw [ERR.out, if_pos h]
    rw [h]
    subst eR
    clear ERR
    have c0 : w4.cell? ⟨rb, 0, none⟩ = some (.bool false) := HR4.cell 0
    have c1 : w4.cell? ⟨rb, 1, none⟩ = some (.bool false) := HR4.cell 1
    have c2 : w4.cell? ⟨rb, 2, none⟩ = some (.int .u64 0) := HR4.cell 2
    have c3 : w4.cell? ⟨rb, 3, none⟩ = some (.bool false) := HR4.cell 3
    have c4 : w4.cell? ⟨rb, 4, none⟩ = some (.int .u64 0) := HR4.cell 4
    have s0 : w4.cell? ⟨sb, 0, none⟩ = some (.bool s) := HS4.cell 0
    have s1 : w4.cell? ⟨sb, 1, none⟩ = some (.bool ji) := HS4.cell 1
    have s2 : w4.cell? ⟨sb, 2, none⟩ = some (.int .u64 jn) := HS4.cell 2
    have s3 : w4.cell? ⟨sb, 3, none⟩ = some (.bool ri) := HS4.cell 3
    have s4 : w4.cell? ⟨sb, 4, none⟩ = some (.int .u64 (rn : Int)) := HS4.cell 4
    have f0 := HR4.fz 0
    have f1 := HR4.fz 1
    have f2 := HR4.fz 2
    have f3 := HR4.fz 3
    have f4 := HR4.fz 4
    have hl := HR4.lt
    have hls := HS4.lt
    clear HR4 HS4 HK h
    go_wp2
    exact bodyPost_ret (v := regR s ji jn ri (rn : Int)) (by simp [results, Try.results43, go_sem, *]) rfl ⟨rfl, hput5 B4.out HL.out _ _ _ _ _⟩
  · have eR : R = regR s ji jn true (n : Int) := by rw [ERR.out, if_neg h]
    subst eR
    clear ERR
    have h' : (ri && decide (n ≤ rn)) = false := by simpa using h
    rw [h']
    clear h h'
    have HR4' := hid HR4
    have HS4' := hid HS4
    clear HR4 HS4
    go_wp2_with fail
    refine (HK.out _ _).mono ?_
    rintro e w5 ⟨rfl, hb5⟩
    have HR4 := HR4'.out.step hb5
    have HS4 := HS4'.out.step hb5
    have B5 := hid (bl_step B4.out hb5)
    clear hb5 HR4' HS4' B4
    have c0 : w5.cell? ⟨rb, 0, none⟩ = some (.bool false) := HR4.cell 0
    have c1 : w5.cell? ⟨rb, 1, none⟩ = some (.bool false) := HR4.cell 1
    have c2 : w5.cell? ⟨rb, 2, none⟩ = some (.int .u64 0) := HR4.cell 2
    have c3 : w5.cell? ⟨rb, 3, none⟩ = some (.bool false) := HR4.cell 3
    have c4 : w5.cell? ⟨rb, 4, none⟩ = some (.int .u64 0) := HR4.cell 4
    have s0 : w5.cell? ⟨sb, 0, none⟩ = some (.bool s) := HS4.cell 0
    have s1 : w5.cell? ⟨sb, 1, none⟩ = some (.bool ji) := HS4.cell 1
    have s2 : w5.cell? ⟨sb, 2, none⟩ = some (.int .u64 jn) := HS4.cell 2
    have s3 : w5.cell? ⟨sb, 3, none⟩ = some (.bool ri) := HS4.cell 3
    have s4 : w5.cell? ⟨sb, 4, none⟩ = some (.int .u64 (rn : Int)) := HS4.cell 4
    have f0 := HR4.fz 0
    have f1 := HR4.fz 1
    have f2 := HR4.fz 2
    have f3 := HR4.fz 3
    have f4 := HR4.fz 4
    have g3 := HS4.fz 3
    have g4 := HS4.fz 4
    have hl := HR4.lt
    have hls := HS4.lt
    clear HR4 HS4 HK
    go_wp2
    exact bodyPost_ret (v := regR s ji jn true (n : Int)) (by simp [results, Try.results43, go_sem, *]) rfl ⟨rfl, hput5 (hput1 (hput1 B5.out HLS.out 3 _) HLS.out 4 _) HL.out _ _ _ _ _⟩

theorem hmore (r : RD) (n : Nat) (w : World) : Calls Try.prog 43 #[regV r, .int .u64 (n : Int)] w (TellV (regV (r.more n)) w) := by
  have h := hmoreR r.set r.just.isSome ((r.just.getD 0 : Nat) : Int) r.room.isSome (r.room.getD 0) n w
  have e : (if (r.room.isSome && decide (n ≤ r.room.getD 0)) = true then regR r.set r.just.isSome ((r.just.getD 0 : Nat) : Int) r.room.isSome ((r.room.getD 0 : Nat) : Int) else regR r.set r.just.isSome ((r.just.getD 0 : Nat) : Int) true (n : Int)) = regV (r.more n) := by
    have : (r.room.isSome && decide (n ≤ r.room.getD 0)) = r.has n := by
      unfold RD.has
      cases r.room <;> simp
    rw [this]
    unfold RD.more
    by_cases e : r.has n = true
    · rw [if_pos e, if_pos e]
    · rw [if_neg e, if_neg e]
      rfl
  rw [e] at h
  exact h
end Go.Proofs.Ytjmlkaciibdpaaa
