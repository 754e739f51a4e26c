/- Texts of one chain, joined: HReg, HReg2, HJoin. -/
import Derived.Test.YtmohffibkpecpaaJ3
import Derived.Test.YtmohffibkpecpaaJ1
import Derived.Deep.RegionHeld3
import Derived.Deep.DeepCutAuto
namespace Go.Proofs.Ytmohffibkpecpaa
open Go.RowKit

@[reducible] def mayV (o : Option Nat) : Value := .agg #[.bool o.isSome, .int .u64 ((o.getD 0 : Nat) : Int)]
@[reducible] def regV (r : RD) : Value := .agg #[.bool r.set, .bool r.just.isSome, .int .u64 ((r.just.getD 0 : Nat) : Int), .bool r.room.isSome, .int .u64 ((r.room.getD 0 : Nat) : Int)]
/-- it tells a value, and nothing old has turned -/
def TellV (v : Value) (w : World) (e : Ending) (w' : World) : Prop := e = .returned v ∧ Below w.heap.size w w'

/-- a block's whole content -/
def BoxC (W : World) (rb : Nat) (cs : Array Value) (T : TypeId) : Prop := W.heap[rb]? = some (.cells cs T (0, 0))
theorem BoxC.step {W W' : World} {rb : Nat} {cs : Array Value} {T : TypeId} (h : BoxC W rb cs T) (b : Below W.heap.size W W') : BoxC W' rb cs T := (b.block rb (Array.getElem?_eq_some_iff.1 h).1).trans h
theorem BoxC.cell {W : World} {rb : Nat} {cs : Array Value} {T : TypeId} (h : BoxC W rb cs T) (i : Nat) : W.cell? ⟨rb, i, none⟩ = cs[i]? := gbox_cell h i
theorem BoxC.fz {W : World} {rb : Nat} {cs : Array Value} {T : TypeId} (h : BoxC W rb cs T) (i : Nat) : W.frozen? ⟨rb, i, none⟩ = false := by
  have h : W.heap[rb]? = some (.cells cs T (0, 0)) := h
  simp [World.frozen?, h]
theorem BoxC.lt {W : World} {rb : Nat} {cs : Array Value} {T : TypeId} (h : BoxC W rb cs T) : rb < W.heap.size := (Array.getElem?_eq_some_iff.1 h).1
theorem boxc_new {w : World} (cs : Array Value) (T : TypeId) (n : Nat) (h : w.heap.size = n) : BoxC (w.alloc (.cells cs T)) n cs T := by
  subst h
  exact heap_alloc_new w _
theorem hput1 {w W : World} {rb : Nat} (b : Below w.heap.size w W) (h : w.heap.size ≤ rb) (i : Nat) (u : Value) : Below w.heap.size w (W.setCell ⟨rb, i, none⟩ u) := b.setCell (p := ⟨rb, i, none⟩) h _
theorem hput2 {w W : World} {rb : Nat} (b : Below w.heap.size w W) (h : w.heap.size ≤ rb) (u v : Value) : Below w.heap.size w ((W.setCell ⟨rb, 0, none⟩ u).setCell ⟨rb, 1, none⟩ v) := hput1 (hput1 b h 0 u) h 1 v

theorem hput5 {w W : World} {rb : Nat} (b : Below w.heap.size w W) (h : w.heap.size ≤ rb) (u0 u1 u2 u3 u4 : Value) : Below w.heap.size w (((((W.setCell ⟨rb, 0, none⟩ u0).setCell ⟨rb, 1, none⟩ u1).setCell ⟨rb, 2, none⟩ u2).setCell ⟨rb, 3, none⟩ u3).setCell ⟨rb, 4, none⟩ u4) := hput1 (hput1 (hput1 (hput1 (hput1 b h 0 u0) h 1 u1) h 2 u2) h 3 u3) h 4 u4

set_option maxHeartbeats 1000000 in
set_option maxRecDepth 20000 in
theorem hknown (n : Int) (w : World) : Calls Try.prog 49 #[.int .u64 n] w (TellV (.agg #[.bool true, .int .u64 n]) w) := by
  go_enter Try.func49, Try.ntmps49
  go_wp2
  exact bodyPost_ret (v := .agg #[.bool true, .int .u64 n]) (by simp [results, Try.results49, go_sem, *]) rfl ⟨rfl, bl_alloc (Below.refl _ _)⟩

@[reducible] def mayR (b : Bool) (x : Int) : Value := .agg #[.bool b, .int .u64 x]

set_option maxHeartbeats 2000000 in
set_option maxRecDepth 20000 in
theorem hsameR (a b : Bool) (x y : Int) (w : World) : Calls Try.prog 51 #[mayR a x, mayR b y] w (TellV (if a = b ∧ x = y then mayR a x else mayR false 0) w) := by
  have HB : Hid (∀ v o1 o2 o3, TellV v w (.returned v) (((w.alloc o1).alloc o2).alloc o3)) := fun _ _ _ _ => ⟨rfl, bl_alloc (bl_alloc (bl_alloc (Below.refl _ _)))⟩
  by_cases h : a = b ∧ x = y
  · rw [if_pos h]
    obtain ⟨rfl, rfl⟩ := h
    have h1 : (x == x) = true := by simp
    have h2 : (a == a) = true := by simp
    go_enter Try.func51, Try.ntmps51
    go_wp2
    exact bodyPost_ret (v := mayR a x) (by simp [results, Try.results51, go_sem, *]) rfl (HB.out _ _ _ _)
  · rw [if_neg h]
    by_cases e : a = b
    · subst e
      have h1 : ¬ x = y := fun e2 => h ⟨rfl, e2⟩
      clear h
      go_enter Try.func51, Try.ntmps51
      go_wp2
      exact bodyPost_ret (v := mayR false 0) (by simp [results, Try.results51, go_sem, *]) rfl (HB.out _ _ _ _)
    · clear h
      go_enter Try.func51, Try.ntmps51
      go_wp2
      exact bodyPost_ret (v := mayR false 0) (by simp [results, Try.results51, go_sem, *]) rfl (HB.out _ _ _ _)

theorem hsame (a b : Option Nat) (w : World) : Calls Try.prog 51 #[mayV a, mayV b] w (TellV (mayV (sameO a b)) w) := by
  have h := hsameR a.isSome b.isSome ((a.getD 0 : Nat) : Int) ((b.getD 0 : Nat) : Int) w
  have e : (if a.isSome = b.isSome ∧ ((a.getD 0 : Nat) : Int) = ((b.getD 0 : Nat) : Int) then mayR a.isSome ((a.getD 0 : Nat) : Int) else mayR false 0) = mayV (sameO a b) := by
    unfold sameO
    cases a with
    | none => cases b <;> simp
    | some a =>
      cases b with
      | none => simp
      | some b =>
        by_cases e : a = b
        · simp [e]
        · have : ¬ ((a : Int) = (b : Int)) := by omega
          simp [e, this]
  rw [e] at h
  exact h

set_option maxHeartbeats 2000000 in
set_option maxRecDepth 20000 in
theorem hleastR (a b : Bool) (x y : Nat) (w : World) : Calls Try.prog 52 #[mayR a (x : Int), mayR b (y : Int)] w (TellV (if (a && b) = true then mayR true ((min x y : Nat) : Int) else mayR false 0) w) := by
  have HB : Hid (∀ v o1 o2 o3, TellV v w (.returned v) (((w.alloc o1).alloc o2).alloc o3)) := fun _ _ _ _ => ⟨rfl, bl_alloc (bl_alloc (bl_alloc (Below.refl _ _)))⟩
  cases a with
  | false =>
    rw [Bool.false_and, if_neg (by decide)]
    go_enter Try.func52, Try.ntmps52
    go_wp2
    exact bodyPost_ret (v := mayR false 0) (by simp [results, Try.results52, go_sem, *]) rfl (HB.out _ _ _ _)
  | true =>
    cases b with
    | false =>
      rw [Bool.and_false, if_neg (by decide)]
      go_enter Try.func52, Try.ntmps52
      go_wp2
      exact bodyPost_ret (v := mayR false 0) (by simp [results, Try.results52, go_sem, *]) rfl (HB.out _ _ _ _)
    | true =>
      rw [Bool.and_true, if_pos rfl]
      have HK := hid (fun n w => hknown n w)
      obtain ⟨W3, hW3⟩ : ∃ W3, W3 = (((w.alloc (.cells #[.bool true, .int .u64 (x : Int)] 41)).alloc (.cells #[.bool true, .int .u64 (y : Int)] 41)).alloc (.cells #[.bool false, .int .u64 0] 41)) := ⟨_, rfl⟩
      obtain ⟨rb, hrb⟩ : ∃ rb, rb = w.heap.size + 1 + 1 := ⟨_, rfl⟩
      have HB3 : Hid (Below w.heap.size w W3) := by rw [hW3]; exact bl_alloc (bl_alloc (bl_alloc (Below.refl _ _)))
      have HR : Hid (BoxC W3 rb #[.bool false, .int .u64 0] 41) := by rw [hW3, hrb]; exact boxc_new _ _ _ (by simp)
      have HL : Hid (w.heap.size ≤ rb) := by rw [hrb]; show _ ≤ _; omega
      have EW := hid hW3
      have ER := hid hrb
      clear hW3 hrb
      by_cases h : y < x
      · rw [show min x y = y by omega]
        go_enter Try.func52, Try.ntmps52
        go_wp2_with fail
        rw [← EW.out, ← ER.out]
        refine (HK.out _ _).mono ?_
        rintro e w4 ⟨rfl, hb⟩
        have HR4 := HR.out.step hb
        have c0 : w4.cell? ⟨rb, 0, none⟩ = some (.bool false) := HR4.cell 0
        have c1 : w4.cell? ⟨rb, 1, none⟩ = some (.int .u64 0) := HR4.cell 1
        have f0 := HR4.fz 0
        have f1 := HR4.fz 1
        have hl := HR4.lt
        have B4 := hid (bl_step HB3.out hb)
        clear HR4 hb
        go_wp2
        exact bodyPost_ret (v := mayR true (y : Int)) (by simp [results, Try.results52, go_sem, *]) rfl ⟨rfl, hput2 B4.out HL.out _ _⟩
      · rw [show min x y = x by omega]
        go_enter Try.func52, Try.ntmps52
        go_wp2_with fail
        rw [← EW.out, ← ER.out]
        refine (HK.out _ _).mono ?_
        rintro e w4 ⟨rfl, hb⟩
        have HR4 := HR.out.step hb
        have c0 : w4.cell? ⟨rb, 0, none⟩ = some (.bool false) := HR4.cell 0
        have c1 : w4.cell? ⟨rb, 1, none⟩ = some (.int .u64 0) := HR4.cell 1
        have f0 := HR4.fz 0
        have f1 := HR4.fz 1
        have hl := HR4.lt
        have B4 := hid (bl_step HB3.out hb)
        clear HR4 hb
        go_wp2
        exact bodyPost_ret (v := mayR true (x : Int)) (by simp [results, Try.results52, go_sem, *]) rfl ⟨rfl, hput2 B4.out HL.out _ _⟩

theorem hleast (a b : Option Nat) (w : World) : Calls Try.prog 52 #[mayV a, mayV b] w (TellV (mayV (leastO a b)) w) := by
  have h := hleastR a.isSome b.isSome (a.getD 0) (b.getD 0) w
  have e : (if (a.isSome && b.isSome) = true then mayR true ((min (a.getD 0) (b.getD 0) : Nat) : Int) else mayR false 0) = mayV (leastO a b) := by
    cases a with
    | none => cases b <;> simp [leastO]
    | some a => cases b <;> simp [leastO]
  rw [e] at h
  exact h

@[reducible] def regR (s ji : Bool) (jn : Int) (ri : Bool) (rn : Int) : Value := .agg #[.bool s, .bool ji, .int .u64 jn, .bool ri, .int .u64 rn]

set_option maxHeartbeats 2000000 in
set_option maxRecDepth 20000 in
theorem hhasR (s ji : Bool) (jn : Int) (ri : Bool) (rn n : Nat) (w : World) : Calls Try.prog 36 #[regR s ji jn ri (rn : Int), .int .u64 (n : Int)] w (TellB (ri && decide (n ≤ rn)) w) := by
  have HB : Hid (∀ q o1, TellB q w (.returned (.bool q)) (w.alloc o1)) := fun _ _ => ⟨rfl, bl_alloc (Below.refl _ _)⟩
  cases ri with
  | false =>
    rw [Bool.false_and]
    go_enter Try.func36, Try.ntmps36
    go_wp2
    go_ret
    exact HB.out _ _
  | true =>
    rw [Bool.true_and]
    by_cases h : n ≤ rn
    · have hi : (n : Int) ≤ (rn : Int) := by omega
      rw [decide_eq_true h]
      go_enter Try.func36, Try.ntmps36
      go_wp2
      go_ret
      exact HB.out _ _
    · have hi : ¬ (n : Int) ≤ (rn : Int) := by omega
      rw [decide_eq_false h]
      go_enter Try.func36, Try.ntmps36
      go_wp2
      go_ret
      exact HB.out _ _

theorem hhas (r : RD) (n : Nat) (w : World) : Calls Try.prog 36 #[regV r, .int .u64 (n : Int)] w (TellB (r.has n) w) := by
  have h := hhasR r.set r.just.isSome ((r.just.getD 0 : Nat) : Int) r.room.isSome (r.room.getD 0) n w
  have e : (r.room.isSome && decide (n ≤ r.room.getD 0)) = r.has n := by
    unfold RD.has
    cases r.room <;> simp
  rw [e] at h
  exact h

set_option maxHeartbeats 2000000 in
set_option maxRecDepth 20000 in
theorem hmoreR (s ji : Bool) (jn : Int) (ri : Bool) (rn n : Nat) (w : World) : Calls Try.prog 42 #[regR s ji jn ri (rn : Int), .int .u64 (n : Int)] w (TellV (if (ri && decide (n ≤ rn)) = true then regR s ji jn ri (rn : Int) else regR s ji jn true (n : Int)) w) := by
  obtain ⟨R, hR⟩ : ∃ R, R = (if (ri && decide (n ≤ rn)) = true then regR s ji jn ri (rn : Int) else regR s ji jn true (n : Int)) := ⟨_, rfl⟩
  rw [← hR]
  have ERR := hid hR
  clear hR
  have HK := hid (fun n w => hknown n w)
  have HH := hid (fun w => hhasR s ji jn ri rn n w)
  obtain ⟨W3, hW3⟩ : ∃ W3, W3 = ((w.alloc (.cells #[.bool s, .bool ji, .int .u64 jn, .bool ri, .int .u64 (rn : Int)] 43)).alloc (.cells #[.bool false, .bool false, .int .u64 0, .bool false, .int .u64 0] 43)) := ⟨_, rfl⟩
  obtain ⟨sb, hsb⟩ : ∃ rb, rb = w.heap.size := ⟨_, rfl⟩
  obtain ⟨rb, hrb⟩ : ∃ rb, rb = w.heap.size + 1 := ⟨_, rfl⟩
  have HB3 : Hid (Below w.heap.size w W3) := by rw [hW3]; exact bl_alloc (bl_alloc (Below.refl _ _))
  have HR : Hid (BoxC W3 rb #[.bool false, .bool false, .int .u64 0, .bool false, .int .u64 0] 43) := by rw [hW3, hrb]; exact boxc_new _ _ _ (by simp)
  have HS : Hid (BoxC W3 sb #[.bool s, .bool ji, .int .u64 jn, .bool ri, .int .u64 (rn : Int)] 43) := by
    rw [hW3, hsb]
    exact BoxC.step (boxc_new _ _ _ rfl) (bl_alloc (Below.refl _ _))
  have HL : Hid (w.heap.size ≤ rb) := by rw [hrb]; show _ ≤ _; omega
  have HLS : Hid (w.heap.size ≤ sb) := by rw [hsb]; exact Nat.le_refl _
  have hne : ¬ rb = sb := by omega
  have hne' : ¬ sb = rb := by omega
  have EW := hid hW3
  have ER := hid hrb
  have ES := hid hsb
  clear hW3 hrb hsb
  go_enter Try.func42, Try.ntmps42
  go_wp2_with fail
  rw [← EW.out, ← ER.out, ← ES.out]
  refine (HH.out _).mono ?_
  rintro e w4 ⟨rfl, hb⟩
  have HR4 := HR.out.step hb
  have HS4 := HS.out.step hb
  have B4 := hid (bl_step HB3.out hb)
  clear hb EW ER ES HR HS HB3 HH
  by_cases h : (ri && decide (n ≤ rn)) = true
  · have eR : R = regR s ji jn ri (rn : Int) := by rw [ERR.out, if_pos h]
    rw [h]
    subst eR
    clear ERR
    have c0 : w4.cell? ⟨rb, 0, none⟩ = some (.bool false) := HR4.cell 0
    have c1 : w4.cell? ⟨rb, 1, none⟩ = some (.bool false) := HR4.cell 1
    have c2 : w4.cell? ⟨rb, 2, none⟩ = some (.int .u64 0) := HR4.cell 2
    have c3 : w4.cell? ⟨rb, 3, none⟩ = some (.bool false) := HR4.cell 3
    have c4 : w4.cell? ⟨rb, 4, none⟩ = some (.int .u64 0) := HR4.cell 4
    have s0 : w4.cell? ⟨sb, 0, none⟩ = some (.bool s) := HS4.cell 0
    have s1 : w4.cell? ⟨sb, 1, none⟩ = some (.bool ji) := HS4.cell 1
    have s2 : w4.cell? ⟨sb, 2, none⟩ = some (.int .u64 jn) := HS4.cell 2
    have s3 : w4.cell? ⟨sb, 3, none⟩ = some (.bool ri) := HS4.cell 3
    have s4 : w4.cell? ⟨sb, 4, none⟩ = some (.int .u64 (rn : Int)) := HS4.cell 4
    have f0 := HR4.fz 0
    have f1 := HR4.fz 1
    have f2 := HR4.fz 2
    have f3 := HR4.fz 3
    have f4 := HR4.fz 4
    have hl := HR4.lt
    have hls := HS4.lt
    clear HR4 HS4 HK h
    go_wp2
    exact bodyPost_ret (v := regR s ji jn ri (rn : Int)) (by simp [results, Try.results42, go_sem, *]) rfl ⟨rfl, hput5 B4.out HL.out _ _ _ _ _⟩
  · have eR : R = regR s ji jn true (n : Int) := by rw [ERR.out, if_neg h]
    subst eR
    clear ERR
    have h' : (ri && decide (n ≤ rn)) = false := by simpa using h
    rw [h']
    clear h h'
    have HR4' := hid HR4
    have HS4' := hid HS4
    clear HR4 HS4
    go_wp2_with fail
    refine (HK.out _ _).mono ?_
    rintro e w5 ⟨rfl, hb5⟩
    have HR4 := HR4'.out.step hb5
    have HS4 := HS4'.out.step hb5
    have B5 := hid (bl_step B4.out hb5)
    clear hb5 HR4' HS4' B4
    have c0 : w5.cell? ⟨rb, 0, none⟩ = some (.bool false) := HR4.cell 0
    have c1 : w5.cell? ⟨rb, 1, none⟩ = some (.bool false) := HR4.cell 1
    have c2 : w5.cell? ⟨rb, 2, none⟩ = some (.int .u64 0) := HR4.cell 2
    have c3 : w5.cell? ⟨rb, 3, none⟩ = some (.bool false) := HR4.cell 3
    have c4 : w5.cell? ⟨rb, 4, none⟩ = some (.int .u64 0) := HR4.cell 4
    have s0 : w5.cell? ⟨sb, 0, none⟩ = some (.bool s) := HS4.cell 0
    have s1 : w5.cell? ⟨sb, 1, none⟩ = some (.bool ji) := HS4.cell 1
    have s2 : w5.cell? ⟨sb, 2, none⟩ = some (.int .u64 jn) := HS4.cell 2
    have s3 : w5.cell? ⟨sb, 3, none⟩ = some (.bool ri) := HS4.cell 3
    have s4 : w5.cell? ⟨sb, 4, none⟩ = some (.int .u64 (rn : Int)) := HS4.cell 4
    have f0 := HR4.fz 0
    have f1 := HR4.fz 1
    have f2 := HR4.fz 2
    have f3 := HR4.fz 3
    have f4 := HR4.fz 4
    have g3 := HS4.fz 3
    have g4 := HS4.fz 4
    have hl := HR4.lt
    have hls := HS4.lt
    clear HR4 HS4 HK
    go_wp2
    exact bodyPost_ret (v := regR s ji jn true (n : Int)) (by simp [results, Try.results42, go_sem, *]) rfl ⟨rfl, hput5 (hput1 (hput1 B5.out HLS.out 3 _) HLS.out 4 _) HL.out _ _ _ _ _⟩

theorem hmore (r : RD) (n : Nat) (w : World) : Calls Try.prog 42 #[regV r, .int .u64 (n : Int)] w (TellV (regV (r.more n)) w) := by
  have h := hmoreR r.set r.just.isSome ((r.just.getD 0 : Nat) : Int) r.room.isSome (r.room.getD 0) n w
  have e : (if (r.room.isSome && decide (n ≤ r.room.getD 0)) = true then regR r.set r.just.isSome ((r.just.getD 0 : Nat) : Int) r.room.isSome ((r.room.getD 0 : Nat) : Int) else regR r.set r.just.isSome ((r.just.getD 0 : Nat) : Int) true (n : Int)) = regV (r.more n) := by
    have : (r.room.isSome && decide (n ≤ r.room.getD 0)) = r.has n := by
      unfold RD.has
      cases r.room <;> simp
    rw [this]
    unfold RD.more
    by_cases e : r.has n = true
    · rw [if_pos e, if_pos e]
    · rw [if_neg e, if_neg e]
      rfl
  rw [e] at h
  exact h
end Go.Proofs.Ytmohffibkpecpaa

namespace Go.Proofs.Ytmohffibkpecpaa
open Go.RowKit

@[reducible] def zero5 : Array Value := #[.bool false, .bool false, .int .u64 0, .bool false, .int .u64 0]

/-- a box of five cells, as the walk takes it -/
structure Box5 (W : World) (b : Nat) (v0 v1 v2 v3 v4 : Value) : Prop where
  c0 : W.cell? ⟨b, 0, none⟩ = some v0
  c1 : W.cell? ⟨b, 1, none⟩ = some v1
  c2 : W.cell? ⟨b, 2, none⟩ = some v2
  c3 : W.cell? ⟨b, 3, none⟩ = some v3
  c4 : W.cell? ⟨b, 4, none⟩ = some v4
  f0 : W.frozen? ⟨b, 0, none⟩ = false
  f1 : W.frozen? ⟨b, 1, none⟩ = false
  f2 : W.frozen? ⟨b, 2, none⟩ = false
  f3 : W.frozen? ⟨b, 3, none⟩ = false
  f4 : W.frozen? ⟨b, 4, none⟩ = false
  lt : b < W.heap.size
theorem BoxC.five {W : World} {b : Nat} {v0 v1 v2 v3 v4 : Value} {T : TypeId} (h : BoxC W b #[v0, v1, v2, v3, v4] T) : Box5 W b v0 v1 v2 v3 v4 := ⟨h.cell 0, h.cell 1, h.cell 2, h.cell 3, h.cell 4, h.fz 0, h.fz 1, h.fz 2, h.fz 3, h.fz 4, h.lt⟩

theorem BoxC.put {W : World} {b : Nat} {cs : Array Value} {T : TypeId} (h : BoxC W b cs T) (i : Nat) (v : Value) : BoxC (W.setCell ⟨b, i, none⟩ v) b (cs.set! i v) T := by
  have h : W.heap[b]? = some (.cells cs T (0, 0)) := h
  show (W.setCell ⟨b, i, none⟩ v).heap[b]? = _
  simp [World.setCell, Array.getElem?_modify, h]
theorem BoxC.far {W : World} {b : Nat} {cs : Array Value} {T : TypeId} (h : BoxC W b cs T) {g : Nat} (hg : ¬ g = b) (i : Nat) (v : Value) : BoxC (W.setCell ⟨g, i, none⟩ v) b cs T := by
  have h : W.heap[b]? = some (.cells cs T (0, 0)) := h
  show (W.setCell ⟨g, i, none⟩ v).heap[b]? = _
  simp [World.setCell, Array.getElem?_modify, h, hg]

set_option maxHeartbeats 2000000 in
set_option maxRecDepth 20000 in
theorem hnum (n : Nat) (w : World) : Calls Try.prog 40 #[.int .u64 (n : Int)] w (TellV (regV (RD.num n)) w) := by
  have HK := hid (fun n w => hknown n w)
  obtain ⟨W1, hW1⟩ : ∃ W1, W1 = w.alloc (.cells zero5 43) := ⟨_, rfl⟩
  obtain ⟨rb, hrb⟩ : ∃ rb, rb = w.heap.size := ⟨_, rfl⟩
  have HB1 : Hid (Below w.heap.size w W1) := by rw [hW1]; exact bl_alloc (Below.refl _ _)
  have HR : Hid (BoxC W1 rb zero5 43) := by rw [hW1, hrb]; exact boxc_new _ _ _ rfl
  have HL : Hid (w.heap.size ≤ rb) := by rw [hrb]; exact Nat.le_refl _
  have EW := hid hW1
  have ER := hid hrb
  clear hW1 hrb
  by_cases h0 : n = 0
  · subst h0
    show Calls _ _ _ _ (TellV (regR true true 0 true 0) w)
    go_enter Try.func40, Try.ntmps40
    go_wp2_with fail
    rw [← EW.out, ← ER.out]
    refine (HK.out _ _).mono ?_
    rintro e w4 ⟨rfl, hb⟩
    have HR4 := HR.out.step hb
    have B4 := hid (bl_step HB1.out hb)
    obtain ⟨W5, hW5⟩ : ∃ W, W = w4.alloc (.cells #[.bool true, .bool true, .int .u64 0, .bool false, .int .u64 0] 43) := ⟨_, rfl⟩
    obtain ⟨sb, hsb⟩ : ∃ rb, rb = w4.heap.size := ⟨_, rfl⟩
    have HB5 : Hid (Below w.heap.size w W5) := by rw [hW5]; exact bl_alloc B4.out
    have HS5 : Hid (BoxC W5 sb #[.bool true, .bool true, .int .u64 0, .bool false, .int .u64 0] 43) := by rw [hW5, hsb]; exact boxc_new _ _ _ rfl
    have HR5 : Hid (BoxC W5 rb zero5 43) := by rw [hW5]; exact HR4.step (bl_alloc (Below.refl _ _))
    have HLS : Hid (w.heap.size ≤ sb) := by rw [hsb]; exact Nat.le_trans HL.out (Nat.le_of_lt HR4.lt)
    have hne : ¬ rb = sb := by have := HR4.lt; omega
    have hne' : ¬ sb = rb := by have := HR4.lt; omega
    have E5 := hid hW5
    have ES := hid hsb
    clear hW5 hsb hb HR4 EW ER B4 HB1 HR
    go_wp2_with fail
    rw [← E5.out, ← ES.out]
    refine (HK.out _ _).mono ?_
    rintro e w6 ⟨rfl, hb⟩
    have B6 := hid (bl_step HB5.out hb)
    obtain ⟨c0, c1, c2, c3, c4, f0, f1, f2, f3, f4, hl⟩ := (HR5.out.step hb).five
    obtain ⟨s0, s1, s2, s3, s4, g0, g1, g2, g3, g4, hls⟩ := (HS5.out.step hb).five
    clear hb E5 ES HR5 HS5 HB5 HK
    go_wp2
    exact bodyPost_ret (v := regR true true 0 true 0) (by simp [results, Try.results40, go_sem, *]) rfl ⟨rfl, hput5 (hput1 (hput1 B6.out HLS.out 3 _) HLS.out 4 _) HL.out _ _ _ _ _⟩
  · have e : regV (RD.num n) = regR true true (n : Int) false 0 := by simp [RD.num, h0]
    rw [e]
    clear e
    go_enter Try.func40, Try.ntmps40
    go_wp2_with fail
    rw [← EW.out, ← ER.out]
    refine (HK.out _ _).mono ?_
    rintro e w4 ⟨rfl, hb⟩
    have HR4 := HR.out.step hb
    have B4 := hid (bl_step HB1.out hb)
    obtain ⟨c0, c1, c2, c3, c4, f0, f1, f2, f3, f4, hl⟩ := HR4.five
    have hn0 : ¬ (n : Int) = 0 := by omega
    clear hb EW ER HR HB1 HK h0 HR4
    go_wp2
    exact bodyPost_ret (v := regR true true (n : Int) false 0) (by simp [results, Try.results40, go_sem, *]) rfl ⟨rfl, bl_alloc (hput5 B4.out HL.out _ _ _ _ _)⟩

/-- what bin tells of the sum -/
def binR (ji : Bool) (jn : Nat) (ki : Bool) (kn : Nat) : Bool × Nat := if (ji && ki) = true then (true, (jn + kn) % 18446744073709551616) else (false, 0)
def binM (ri : Bool) (rn : Nat) (ki : Bool) (kn : Nat) : Bool × Nat := if (ki && (ri && decide (kn ≤ rn))) = true then (true, rn - kn) else (false, 0)

set_option maxHeartbeats 2000000 in
set_option maxRecDepth 20000 in
theorem hbin0 (s ji ri s' ki ri' : Bool) (jn rn kn rn' : Nat) (k : Int) (hk : ¬ k = 3) (w : World) : Calls Try.prog 41 #[regR s ji jn ri rn, .int .i64 k, regR s' ki kn ri' rn'] w (TellV (regR true false 0 false 0) w) := by
  have HB : Hid (∀ v o1 o2 o3 o4, TellV v w (.returned v) ((((w.alloc o1).alloc o2).alloc o3).alloc o4)) := fun _ _ _ _ _ => ⟨rfl, bl_alloc (bl_alloc (bl_alloc (bl_alloc (Below.refl _ _))))⟩
  go_enter Try.func41, Try.ntmps41
  go_wp2
  exact bodyPost_ret (v := regR true false 0 false 0) (by simp [results, Try.results41, go_sem, *]) rfl (HB.out _ _ _ _ _)

set_option maxHeartbeats 4000000 in
set_option maxRecDepth 20000 in
theorem hbin3 (s ji ri s' ki ri' : Bool) (jn rn kn rn' : Nat) (hrn : rn < 18446744073709551616) (w : World) : Calls Try.prog 41 #[regR s ji jn ri rn, .int .i64 3, regR s' ki kn ri' rn'] w (TellV (regR true (binR ji jn ki kn).1 (binR ji jn ki kn).2 (binM ri rn ki kn).1 (binM ri rn ki kn).2) w) := by
  have HK := hid (fun n w => hknown n w)
  have HH := hid (fun w => hhasR s ji jn ri rn kn w)
  obtain ⟨W4, hW4⟩ : ∃ W, W = ((((w.alloc (.cells #[.bool s, .bool ji, .int .u64 (jn : Int), .bool ri, .int .u64 (rn : Int)] 43)).alloc (.cells #[.bool s', .bool ki, .int .u64 (kn : Int), .bool ri', .int .u64 (rn' : Int)] 43)).alloc (.cells zero5 43)).alloc (.cells #[.bool true, .bool false, .int .u64 0, .bool false, .int .u64 0] 43)) := ⟨_, rfl⟩
  obtain ⟨a, ha⟩ : ∃ rb, rb = w.heap.size := ⟨_, rfl⟩
  obtain ⟨b, hb⟩ : ∃ rb, rb = w.heap.size + 1 := ⟨_, rfl⟩
  obtain ⟨r, hr⟩ : ∃ rb, rb = w.heap.size + 1 + 1 := ⟨_, rfl⟩
  obtain ⟨o, ho⟩ : ∃ rb, rb = w.heap.size + 1 + 1 + 1 := ⟨_, rfl⟩
  have HB4 : Hid (Below w.heap.size w W4) := by rw [hW4]; exact bl_alloc (bl_alloc (bl_alloc (bl_alloc (Below.refl _ _))))
  have XA : Hid (BoxC W4 a #[.bool s, .bool ji, .int .u64 (jn : Int), .bool ri, .int .u64 (rn : Int)] 43) := by
    rw [hW4, ha]
    exact BoxC.step (boxc_new _ _ _ rfl) (bl_alloc (bl_alloc (bl_alloc (Below.refl _ _))))
  have XB : Hid (BoxC W4 b #[.bool s', .bool ki, .int .u64 (kn : Int), .bool ri', .int .u64 (rn' : Int)] 43) := by
    rw [hW4, hb]
    exact BoxC.step (boxc_new _ _ _ (by simp)) (bl_alloc (bl_alloc (Below.refl _ _)))
  have XR : Hid (BoxC W4 r zero5 43) := by
    rw [hW4, hr]
    exact BoxC.step (boxc_new _ _ _ (by simp)) (bl_alloc (Below.refl _ _))
  have XO : Hid (BoxC W4 o #[.bool true, .bool false, .int .u64 0, .bool false, .int .u64 0] 43) := by
    rw [hW4, ho]
    exact boxc_new _ _ _ (by simp)
  have HLR : Hid (w.heap.size ≤ r) := by rw [hr]; show _ ≤ _; omega
  have HLO : Hid (w.heap.size ≤ o) := by rw [ho]; show _ ≤ _; omega
  have n1 : ¬ r = a := by omega
  have n2 : ¬ r = b := by omega
  have n3 : ¬ r = o := by omega
  have n4 : ¬ o = a := by omega
  have n5 : ¬ o = b := by omega
  have n6 : ¬ o = r := by omega
  have EW := hid hW4
  have EA := hid ha
  have EB := hid hb
  have ER := hid hr
  have EO := hid ho
  clear hW4 ha hb hr ho
  cases ki with
  | false =>
    rw [show binR ji jn false kn = (false, 0) by simp [binR], show binM ri rn false kn = (false, 0) by simp [binM]]
    show Calls _ _ _ _ (TellV (regR true false 0 false 0) w)
    clear HK HH
    cases ji
    all_goals
      have HE : Hid (∀ u0 u1 u2 u3 u4, Below w.heap.size w (((((W4.setCell ⟨r, 0, none⟩ u0).setCell ⟨r, 1, none⟩ u1).setCell ⟨r, 2, none⟩ u2).setCell ⟨r, 3, none⟩ u3).setCell ⟨r, 4, none⟩ u4)) := fun _ _ _ _ _ => hput5 HB4.out HLR.out _ _ _ _ _
      go_enter Try.func41, Try.ntmps41
      go_upto_region 4 with fail
      rw [← EW.out, ← EO.out, ← ER.out, ← EB.out, ← EA.out]
      clear EW EA EB ER EO
      obtain ⟨a0, a1, a2, a3, a4, _, _, _, _, _, hla⟩ := XA.out.five
      obtain ⟨b0, b1, b2, b3, b4, _, _, _, _, _, hlb⟩ := XB.out.five
      obtain ⟨r0, r1, r2, r3, r4, fr0, fr1, fr2, fr3, fr4, hlr⟩ := XR.out.five
      obtain ⟨o0, o1, o2, o3, o4, fo0, fo1, fo2, fo3, fo4, hlo⟩ := XO.out.five
      clear XA XB XR XO
      go_wp2
      exact bodyPost_ret (v := regR true false 0 false 0) (by simp [results, Try.results41, go_sem, *]) rfl ⟨rfl, hput5 HB4.out HLR.out _ _ _ _ _⟩
  | true =>
    cases ji with
    | false =>
      have EM := hid (show binM ri rn true kn = if (ri && decide (kn ≤ rn)) = true then (true, rn - kn) else (false, 0) by simp [binM])
      rw [show binR false jn true kn = (false, 0) by simp [binR]]
      generalize binM ri rn true kn = M at *
      obtain ⟨M1, M2⟩ := M
      dsimp only
      show Calls _ _ _ _ (TellV (regR true false 0 M1 M2) w)
      go_enter Try.func41, Try.ntmps41
      go_upto_region 4 with fail
      rw [← EW.out, ← EO.out, ← ER.out, ← EB.out, ← EA.out]
      clear EW EA EB ER EO
      have XA0 := XA
      have XB0 := XB
      have XR0 := XR
      have XO0 := XO
      obtain ⟨a0, a1, a2, a3, a4, _, _, _, _, _, hla⟩ := XA.out.five
      obtain ⟨b0, b1, b2, b3, b4, _, _, _, _, _, hlb⟩ := XB.out.five
      obtain ⟨r0, r1, r2, r3, r4, fr0, fr1, fr2, fr3, fr4, hlr⟩ := XR.out.five
      obtain ⟨o0, o1, o2, o3, o4, fo0, fo1, fo2, fo3, fo4, hlo⟩ := XO.out.five
      clear XA XB XR XO
      have XA := XA0
      have XB := XB0
      have XR := XR0
      have XO := XO0
      clear XA0 XB0 XR0 XO0
      go_wp2_with fail
      clear a0 a1 a2 a3 a4 b0 b1 b2 b3 b4 r0 r1 r2 r3 r4 o0 o1 o2 o3 o4 fr0 fr1 fr2 fr3 fr4 fo0 fo1 fo2 fo3 fo4 hla hlb hlr hlo
      refine (HH.out _).mono ?_
      rintro e wx ⟨rfl, hb⟩
      have XA' := hid (XA.out.step hb)
      have XB' := hid (XB.out.step hb)
      have XR' := hid (XR.out.step hb)
      have XO' := hid (XO.out.step hb)
      have BB := hid (bl_step HB4.out hb)
      clear hb XA XB XR XO HB4
      have XA := XA'
      have XB := XB'
      have XR := XR'
      have XO := XO'
      have HB4 := BB
      clear XA' XB' XR' XO' BB
      by_cases hm : (ri && decide (kn ≤ rn)) = true
      · have eM : (M1, M2) = (true, rn - kn) := by rw [EM.out, if_pos hm]
        have hkr : kn ≤ rn := by simp only [Bool.and_eq_true, decide_eq_true_eq] at hm; exact hm.2
        rw [hm]
        obtain ⟨D, hD⟩ : ∃ D, D = rn - kn := ⟨_, rfl⟩
        have hd : IntKind.u64.wrap ((rn : Int) - (kn : Int)) = (D : Int) := by rw [gwrap_u _ (by omega) (by omega)]; omega
        have EM1 := hid (show M1 = true from congrArg Prod.fst eM)
        have EM2 := hid (show M2 = D by rw [hD]; exact congrArg Prod.snd eM)
        clear hD hkr hm EM eM
        have XA0 := XA
        have XB0 := XB
        have XR0 := XR
        have XO0 := XO
        obtain ⟨a0, a1, a2, a3, a4, _, _, _, _, _, hla⟩ := XA.out.five
        obtain ⟨b0, b1, b2, b3, b4, _, _, _, _, _, hlb⟩ := XB.out.five
        obtain ⟨r0, r1, r2, r3, r4, fr0, fr1, fr2, fr3, fr4, hlr⟩ := XR.out.five
        obtain ⟨o0, o1, o2, o3, o4, fo0, fo1, fo2, fo3, fo4, hlo⟩ := XO.out.five
        clear XA XB XR XO
        have XA := XA0
        have XB := XB0
        have XR := XR0
        have XO := XO0
        clear XA0 XB0 XR0 XO0
        go_wp2_with fail
        refine (HK.out _ _).mono ?_
        rintro e wy ⟨rfl, hb⟩
        clear a0 a1 a2 a3 a4 b0 b1 b2 b3 b4 r0 r1 r2 r3 r4 o0 o1 o2 o3 o4 fr0 fr1 fr2 fr3 fr4 fo0 fo1 fo2 fo3 fo4 hla hlb hlr hlo
        have XA' := hid (XA.out.step hb)
        have XB' := hid (XB.out.step hb)
        have XR' := hid (XR.out.step hb)
        have XO' := hid (XO.out.step hb)
        have BB := hid (bl_step HB4.out hb)
        clear hb XA XB XR XO HB4
        have XA := XA'
        have XB := XB'
        have XR := XR'
        have XO := XO'
        have HB4 := BB
        clear XA' XB' XR' XO' BB
        obtain ⟨a0, a1, a2, a3, a4, _, _, _, _, _, hla⟩ := XA.out.five
        obtain ⟨b0, b1, b2, b3, b4, _, _, _, _, _, hlb⟩ := XB.out.five
        obtain ⟨r0, r1, r2, r3, r4, fr0, fr1, fr2, fr3, fr4, hlr⟩ := XR.out.five
        obtain ⟨o0, o1, o2, o3, o4, fo0, fo1, fo2, fo3, fo4, hlo⟩ := XO.out.five
        clear XA XB XR XO
        go_wp2
        exact bodyPost_ret (v := regR true false 0 true (D : Int)) (by simp [results, Try.results41, go_sem, *]) rfl ⟨by rw [EM1.out, EM2.out] <;> rfl, hput5 (hput1 (hput1 HB4.out HLO.out 3 _) HLO.out 4 _) HLR.out _ _ _ _ _⟩
      · have eM : (M1, M2) = (false, 0) := by rw [EM.out, if_neg hm]
        have EM1 := hid (show M1 = false from congrArg Prod.fst eM)
        have EM2 := hid (show M2 = 0 from congrArg Prod.snd eM)
        clear eM
        have hm' : (ri && decide (kn ≤ rn)) = false := by simpa using hm
        rw [hm']
        clear hm hm' EM HK HH
        obtain ⟨a0, a1, a2, a3, a4, _, _, _, _, _, hla⟩ := XA.out.five
        obtain ⟨b0, b1, b2, b3, b4, _, _, _, _, _, hlb⟩ := XB.out.five
        obtain ⟨r0, r1, r2, r3, r4, fr0, fr1, fr2, fr3, fr4, hlr⟩ := XR.out.five
        obtain ⟨o0, o1, o2, o3, o4, fo0, fo1, fo2, fo3, fo4, hlo⟩ := XO.out.five
        clear XA XB XR XO
        go_wp2
        exact bodyPost_ret (v := regR true false 0 false 0) (by simp [results, Try.results41, go_sem, *]) rfl ⟨by rw [EM1.out, EM2.out] <;> rfl, hput5 HB4.out HLR.out _ _ _ _ _⟩
    | true =>
      have EM := hid (show binM ri rn true kn = if (ri && decide (kn ≤ rn)) = true then (true, rn - kn) else (false, 0) by simp [binM])
      rw [show binR true jn true kn = (true, (jn + kn) % 18446744073709551616) by simp [binR]]
      generalize binM ri rn true kn = M at *
      obtain ⟨M1, M2⟩ := M
      dsimp only
      obtain ⟨S, hS⟩ : ∃ S, S = (jn + kn) % 18446744073709551616 := ⟨_, rfl⟩
      have hs : IntKind.u64.wrap ((jn : Int) + (kn : Int)) = (S : Int) := by
        rw [hS]
        simp [IntKind.wrap, IntKind.signed, IntKind.bits]
      rw [← hS]
      clear hS
      go_enter Try.func41, Try.ntmps41
      go_upto_region 4 with fail
      rw [← EW.out, ← EO.out, ← ER.out, ← EB.out, ← EA.out]
      clear EW EA EB ER EO
      have XA0 := XA
      have XB0 := XB
      have XR0 := XR
      have XO0 := XO
      obtain ⟨a0, a1, a2, a3, a4, _, _, _, _, _, hla⟩ := XA.out.five
      obtain ⟨b0, b1, b2, b3, b4, _, _, _, _, _, hlb⟩ := XB.out.five
      obtain ⟨r0, r1, r2, r3, r4, fr0, fr1, fr2, fr3, fr4, hlr⟩ := XR.out.five
      obtain ⟨o0, o1, o2, o3, o4, fo0, fo1, fo2, fo3, fo4, hlo⟩ := XO.out.five
      clear XA XB XR XO
      have XA := XA0
      have XB := XB0
      have XR := XR0
      have XO := XO0
      clear XA0 XB0 XR0 XO0
      go_wp2_with fail
      refine (HK.out _ _).mono ?_
      rintro e wx ⟨rfl, hb⟩
      clear a0 a1 a2 a3 a4 b0 b1 b2 b3 b4 r0 r1 r2 r3 r4 o0 o1 o2 o3 o4 fr0 fr1 fr2 fr3 fr4 fo0 fo1 fo2 fo3 fo4 hla hlb hlr hlo
      have XA' := hid (XA.out.step hb)
      have XB' := hid (XB.out.step hb)
      have XR' := hid (XR.out.step hb)
      have XO' := hid (XO.out.step hb)
      have BB := hid (bl_step HB4.out hb)
      clear hb XA XB XR XO HB4
      have XA := XA'
      have XB := XB'
      have XR := XR'
      have XO := XO'
      have HB4 := BB
      clear XA' XB' XR' XO' BB
      obtain ⟨W6, hW6⟩ : ∃ W, W = (wx.setCell ⟨o, 1, none⟩ (.bool true)).setCell ⟨o, 2, none⟩ (.int .u64 (S : Int)) := ⟨_, rfl⟩
      have XA' : Hid (BoxC W6 a #[.bool s, .bool true, .int .u64 (jn : Int), .bool ri, .int .u64 (rn : Int)] 43) := by rw [hW6]; exact (XA.out.far n4 _ _).far n4 _ _
      have XB' : Hid (BoxC W6 b #[.bool s', .bool true, .int .u64 (kn : Int), .bool ri', .int .u64 (rn' : Int)] 43) := by rw [hW6]; exact (XB.out.far n5 _ _).far n5 _ _
      have XR' : Hid (BoxC W6 r zero5 43) := by rw [hW6]; exact (XR.out.far n6 _ _).far n6 _ _
      have XO' : Hid (BoxC W6 o #[.bool true, .bool true, .int .u64 (S : Int), .bool false, .int .u64 0] 43) := by rw [hW6]; exact (XO.out.put _ _).put _ _
      have BB : Hid (Below w.heap.size w W6) := by rw [hW6]; exact hput1 (hput1 HB4.out HLO.out _ _) HLO.out _ _
      have E6 := hid hW6
      clear hW6
      have XA0 := XA
      have XB0 := XB
      have XR0 := XR
      have XO0 := XO
      obtain ⟨a0, a1, a2, a3, a4, _, _, _, _, _, hla⟩ := XA.out.five
      obtain ⟨b0, b1, b2, b3, b4, _, _, _, _, _, hlb⟩ := XB.out.five
      obtain ⟨r0, r1, r2, r3, r4, fr0, fr1, fr2, fr3, fr4, hlr⟩ := XR.out.five
      obtain ⟨o0, o1, o2, o3, o4, fo0, fo1, fo2, fo3, fo4, hlo⟩ := XO.out.five
      clear XA XB XR XO
      clear XA0 XB0 XR0 XO0 HB4
      have XA := XA'
      have XB := XB'
      have XR := XR'
      have XO := XO'
      have HB4 := BB
      clear XA' XB' XR' XO' BB
      go_wp2_with fail
      rw [← E6.out]
      clear E6 a0 a1 a2 a3 a4 b0 b1 b2 b3 b4 r0 r1 r2 r3 r4 o0 o1 o2 o3 o4 fr0 fr1 fr2 fr3 fr4 fo0 fo1 fo2 fo3 fo4 hla hlb hlr hlo
      refine (HH.out _).mono ?_
      rintro e wx ⟨rfl, hb⟩
      have XA' := hid (XA.out.step hb)
      have XB' := hid (XB.out.step hb)
      have XR' := hid (XR.out.step hb)
      have XO' := hid (XO.out.step hb)
      have BB := hid (bl_step HB4.out hb)
      clear hb XA XB XR XO HB4
      have XA := XA'
      have XB := XB'
      have XR := XR'
      have XO := XO'
      have HB4 := BB
      clear XA' XB' XR' XO' BB
      by_cases hm : (ri && decide (kn ≤ rn)) = true
      · have eM : (M1, M2) = (true, rn - kn) := by rw [EM.out, if_pos hm]
        have hkr : kn ≤ rn := by simp only [Bool.and_eq_true, decide_eq_true_eq] at hm; exact hm.2
        rw [hm]
        obtain ⟨D, hD⟩ : ∃ D, D = rn - kn := ⟨_, rfl⟩
        have hd : IntKind.u64.wrap ((rn : Int) - (kn : Int)) = (D : Int) := by rw [gwrap_u _ (by omega) (by omega)]; omega
        have EM1 := hid (show M1 = true from congrArg Prod.fst eM)
        have EM2 := hid (show M2 = D by rw [hD]; exact congrArg Prod.snd eM)
        clear hD hkr hm EM eM
        have XA0 := XA
        have XB0 := XB
        have XR0 := XR
        have XO0 := XO
        obtain ⟨a0, a1, a2, a3, a4, _, _, _, _, _, hla⟩ := XA.out.five
        obtain ⟨b0, b1, b2, b3, b4, _, _, _, _, _, hlb⟩ := XB.out.five
        obtain ⟨r0, r1, r2, r3, r4, fr0, fr1, fr2, fr3, fr4, hlr⟩ := XR.out.five
        obtain ⟨o0, o1, o2, o3, o4, fo0, fo1, fo2, fo3, fo4, hlo⟩ := XO.out.five
        clear XA XB XR XO
        have XA := XA0
        have XB := XB0
        have XR := XR0
        have XO := XO0
        clear XA0 XB0 XR0 XO0
        go_wp2_with fail
        refine (HK.out _ _).mono ?_
        rintro e wy ⟨rfl, hb⟩
        clear a0 a1 a2 a3 a4 b0 b1 b2 b3 b4 r0 r1 r2 r3 r4 o0 o1 o2 o3 o4 fr0 fr1 fr2 fr3 fr4 fo0 fo1 fo2 fo3 fo4 hla hlb hlr hlo
        have XA' := hid (XA.out.step hb)
        have XB' := hid (XB.out.step hb)
        have XR' := hid (XR.out.step hb)
        have XO' := hid (XO.out.step hb)
        have BB := hid (bl_step HB4.out hb)
        clear hb XA XB XR XO HB4
        have XA := XA'
        have XB := XB'
        have XR := XR'
        have XO := XO'
        have HB4 := BB
        clear XA' XB' XR' XO' BB
        obtain ⟨a0, a1, a2, a3, a4, _, _, _, _, _, hla⟩ := XA.out.five
        obtain ⟨b0, b1, b2, b3, b4, _, _, _, _, _, hlb⟩ := XB.out.five
        obtain ⟨r0, r1, r2, r3, r4, fr0, fr1, fr2, fr3, fr4, hlr⟩ := XR.out.five
        obtain ⟨o0, o1, o2, o3, o4, fo0, fo1, fo2, fo3, fo4, hlo⟩ := XO.out.five
        clear XA XB XR XO
        go_wp2
        exact bodyPost_ret (v := regR true true (S : Int) true (D : Int)) (by simp [results, Try.results41, go_sem, *]) rfl ⟨by rw [EM1.out, EM2.out] <;> rfl, hput5 (hput1 (hput1 HB4.out HLO.out 3 _) HLO.out 4 _) HLR.out _ _ _ _ _⟩
      · have eM : (M1, M2) = (false, 0) := by rw [EM.out, if_neg hm]
        have EM1 := hid (show M1 = false from congrArg Prod.fst eM)
        have EM2 := hid (show M2 = 0 from congrArg Prod.snd eM)
        clear eM
        have hm' : (ri && decide (kn ≤ rn)) = false := by simpa using hm
        rw [hm']
        clear hm hm' EM HK HH
        obtain ⟨a0, a1, a2, a3, a4, _, _, _, _, _, hla⟩ := XA.out.five
        obtain ⟨b0, b1, b2, b3, b4, _, _, _, _, _, hlb⟩ := XB.out.five
        obtain ⟨r0, r1, r2, r3, r4, fr0, fr1, fr2, fr3, fr4, hlr⟩ := XR.out.five
        obtain ⟨o0, o1, o2, o3, o4, fo0, fo1, fo2, fo3, fo4, hlo⟩ := XO.out.five
        clear XA XB XR XO
        go_wp2
        exact bodyPost_ret (v := regR true true (S : Int) false 0) (by simp [results, Try.results41, go_sem, *]) rfl ⟨by rw [EM1.out, EM2.out] <;> rfl, hput5 HB4.out HLR.out _ _ _ _ _⟩

theorem hbin (r s : RD) (k : Int) (hr : r.ok) (w : World) : Calls Try.prog 41 #[regV r, .int .i64 k, regV s] w (TellV (regV (r.bin k s)) w) := by
  by_cases hk : k = 3
  · subst hk
    have h := hbin3 r.set r.just.isSome r.room.isSome s.set s.just.isSome s.room.isSome (r.just.getD 0) (r.room.getD 0) (s.just.getD 0) (s.room.getD 0) (by
      cases e : r.room with
      | none => simp
      | some m => have := hr.2.1 m e; simp only [Option.getD_some]; omega) w
    have e : regR true (binR r.just.isSome (r.just.getD 0) s.just.isSome (s.just.getD 0)).1 (binR r.just.isSome (r.just.getD 0) s.just.isSome (s.just.getD 0)).2 (binM r.room.isSome (r.room.getD 0) s.just.isSome (s.just.getD 0)).1 (binM r.room.isSome (r.room.getD 0) s.just.isSome (s.just.getD 0)).2 = regV (r.bin 3 s) := by
      obtain ⟨rs, rj, rr⟩ := r
      obtain ⟨ss, sj, sr⟩ := s
      simp only [RD.bin, if_pos]
      cases sj with
      | none => cases rj <;> cases rr <;> simp [binR, binM, sumO, lessO]
      | some b =>
        cases rr with
        | none => cases rj <;> simp [binR, binM, sumO, lessO]
        | some m =>
          by_cases hb : b ≤ m
          · cases rj <;> simp [binR, binM, sumO, lessO, hb]
          · cases rj <;> simp [binR, binM, sumO, lessO, hb]
    rw [e] at h
    exact h
  · have h := hbin0 r.set r.just.isSome r.room.isSome s.set s.just.isSome s.room.isSome (r.just.getD 0) (r.room.getD 0) (s.just.getD 0) (s.room.getD 0) k hk w
    rw [show regV (r.bin k s) = regR true false 0 false 0 by unfold RD.bin; rw [if_neg hk]; rfl]
    exact h
end Go.Proofs.Ytmohffibkpecpaa

namespace Go.Proofs.Ytmohffibkpecpaa
open Go.RowKit

set_option maxHeartbeats 4000000 in
set_option maxRecDepth 20000 in
theorem hjoinX (s ji ri s' ki ri' : Bool) (jn rn kn rn' : Int) (j1 : Bool) (j2 : Int) (m1 : Bool) (m2 : Int) (HS : ∀ w, Calls Try.prog 51 #[mayR ji jn, mayR ki kn] w (TellV (mayR j1 j2) w)) (HM : ∀ w, Calls Try.prog 52 #[mayR ri rn, mayR ri' rn'] w (TellV (mayR m1 m2) w)) (w : World) :
    Calls Try.prog 48 #[regR s ji jn ri rn, regR s' ki kn ri' rn'] w (TellV (regR (s && s') j1 j2 m1 m2) w) := by
  obtain ⟨W4, hW4⟩ : ∃ W, W = (((w.alloc (.cells #[.bool s, .bool ji, .int .u64 jn, .bool ri, .int .u64 rn] 43)).alloc (.cells #[.bool s', .bool ki, .int .u64 kn, .bool ri', .int .u64 rn'] 43)).alloc (.cells zero5 43)) := ⟨_, rfl⟩
  obtain ⟨a, ha⟩ : ∃ rb, rb = w.heap.size := ⟨_, rfl⟩
  obtain ⟨b, hb⟩ : ∃ rb, rb = w.heap.size + 1 := ⟨_, rfl⟩
  obtain ⟨r, hr⟩ : ∃ rb, rb = w.heap.size + 1 + 1 := ⟨_, rfl⟩
  have HB4 : Hid (Below w.heap.size w W4) := by rw [hW4]; exact bl_alloc (bl_alloc (bl_alloc (Below.refl _ _)))
  have XA : BoxC W4 a #[.bool s, .bool ji, .int .u64 jn, .bool ri, .int .u64 rn] 43 := by
    rw [hW4, ha]
    exact BoxC.step (boxc_new _ _ _ rfl) (bl_alloc (bl_alloc (Below.refl _ _)))
  have XB : BoxC W4 b #[.bool s', .bool ki, .int .u64 kn, .bool ri', .int .u64 rn'] 43 := by
    rw [hW4, hb]
    exact BoxC.step (boxc_new _ _ _ (by simp)) (bl_alloc (Below.refl _ _))
  have XR : Hid (BoxC W4 r zero5 43) := by
    rw [hW4, hr]
    exact boxc_new _ _ _ (by simp)
  have HLR : Hid (w.heap.size ≤ r) := by rw [hr]; show _ ≤ _; omega
  have n1 : ¬ r = a := by omega
  have n2 : ¬ r = b := by omega
  have H1 : Hid (∀ q : BelowBy W4, Calls Try.prog 51 #[mayR ji jn, mayR ki kn] q.to fun e w' => e = .returned (mayR j1 j2) ∧ Below q.to.heap.size q.to w') := fun q => HS q.to
  have H2 : Hid (∀ q : BelowBy W4, Calls Try.prog 52 #[mayR ri rn, mayR ri' rn'] q.to fun e w' => e = .returned (mayR m1 m2) ∧ Below q.to.heap.size q.to w') := fun q => HM q.to
  have EW := hid hW4
  have EA := hid ha
  have EB := hid hb
  have ER := hid hr
  clear hW4 ha hb hr HS HM
  obtain ⟨a0, a1, a2, a3, a4, _, _, _, _, _, hla⟩ := XA.five
  obtain ⟨b0, b1, b2, b3, b4, _, _, _, _, _, hlb⟩ := XB.five
  clear XA XB
  have a0' := cell_by a0
  have a1' := cell_by a1
  have a2' := cell_by a2
  have a3' := cell_by a3
  have a4' := cell_by a4
  have b0' := cell_by b0
  have b1' := cell_by b1
  have b2' := cell_by b2
  have b3' := cell_by b3
  have b4' := cell_by b4
  haveI inhB : ∀ w : World, Inhabited (BelowBy w) := fun w => ⟨⟨w, Below.refl _ _⟩⟩
  cases s
  all_goals
    go_enter Try.func48, Try.ntmps48
    go_upto_region 1 with fail
    rw [← EW.out, ← ER.out, ← EB.out, ← EA.out]
    clear EW EA EB ER
    go_wp2_with fail
    refine wp_region_cutQ 17 (by kernel_rfl) (by kernel_rfl) ?_
    simp only [List.take_succ_cons, List.take_zero]
    repeat (go_big_quiet_step (first | (go_at_call 51; exact calls_below _ (H1.out _)) | (go_at_call 52; exact calls_below _ (H2.out _))))
    refine wpQuiet_nil ?_
    intro wq hw'
    obtain ⟨⟨_, hwq⟩, hw''⟩ := hw'
    subst hw''
    simp only [List.drop_succ_cons, List.drop_zero]
    obtain ⟨r0, r1, r2, r3, r4, fr0, fr1, fr2, fr3, fr4, hlr⟩ := (XR.out.step hwq).five
    have BB := hid (bl_step HB4.out hwq)
    clear hwq a0 a1 a2 a3 a4 b0 b1 b2 b3 b4 a0' a1' a2' a3' a4' b0' b1' b2' b3' b4' H1 H2 XR HB4 inhB
    go_wp2
    first
      | exact bodyPost_ret (v := regR false j1 j2 m1 m2) (by simp [results, Try.results48, go_sem, *]) rfl ⟨rfl, hput5 BB.out HLR.out _ _ _ _ _⟩
      | exact bodyPost_ret (v := regR s' j1 j2 m1 m2) (by simp [results, Try.results48, go_sem, *]) rfl ⟨rfl, hput5 BB.out HLR.out _ _ _ _ _⟩

theorem hjoin (r t : RD) (w : World) : Calls Try.prog 48 #[regV r, regV t] w (TellV (regV (r.join t)) w) :=
  hjoinX r.set r.just.isSome r.room.isSome t.set t.just.isSome t.room.isSome _ _ _ _ _ _ _ _ (fun w => hsame r.just t.just w) (fun w => hleast r.room t.room w) w
end Go.Proofs.Ytmohffibkpecpaa
