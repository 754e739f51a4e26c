/- Texts of one chain, joined: QStore, QRules. -/
import Derived.Test.YtffbnggdckjogaaGreatG29
import Derived.Test.YtffbnggdckjogaaGreatG38
import Derived.Test.YtffbnggdckjogaaGreatG0
import Derived.Test.YtffbnggdckjogaaGreatG23
import Derived.Laws.EntriesVeiled
namespace Go.Proofs.YtffbnggdckjogaaGreat
open Go.RowKit
def isK (kind : Int) : Bool := decide (kind = 1 ∨ kind = 2 ∨ kind = 3)
def mostK (kind : Int) : Int := if kind = 2 then 1 else 3
set_option maxHeartbeats 1000000 in
set_option maxRecDepth 20000 in
theorem qkind_any (x : Int) (w : World) : Calls Tryz.prog 24 #[.int .i64 x] w fun e w' => e = .returned (.bool (isK x)) ∧ w' = w := by
  by_cases h1 : x = 1
  · subst h1
    go_enter Tryz.func24, Tryz.ntmps24
    go_wp2
    go_ret
    exact ⟨rfl, rfl⟩
  have e1 : (x == 1) = false := by simpa using h1
  by_cases h2 : x = 2
  · subst h2
    go_enter Tryz.func24, Tryz.ntmps24
    go_wp2
    go_ret
    exact ⟨rfl, rfl⟩
  have e2 : (x == 2) = false := by simpa using h2
  by_cases h3 : x = 3
  · subst h3
    go_enter Tryz.func24, Tryz.ntmps24
    go_wp2
    go_ret
    exact ⟨rfl, rfl⟩
  have e3 : (x == 3) = false := by simpa using h3
  have HR : Hid (isK x = false) := decide_eq_false (fun h => h.elim h1 (fun h => h.elim h2 h3))
  go_enter Tryz.func24, Tryz.ntmps24
  go_wp2
  go_ret
  exact ⟨by rw [HR.out]; rfl, rfl⟩
set_option maxHeartbeats 1000000 in
set_option maxRecDepth 20000 in
theorem qmost_any (x : Int) (w : World) : Calls Tryz.prog 26 #[.int .i64 x] w fun e w' => e = .returned (.int .i64 (mostK x)) ∧ w' = w := by
  by_cases h2 : x = 2
  · subst h2
    go_enter Tryz.func26, Tryz.ntmps26
    go_wp2
    go_ret
    exact ⟨rfl, rfl⟩
  · have e2 : (x == 2) = false := by simpa using h2
    have HR : Hid (mostK x = 3) := if_neg h2
    go_enter Tryz.func26, Tryz.ntmps26
    go_wp2
    go_ret
    exact ⟨by rw [HR.out]; rfl, rfl⟩
def InC (low high : Int) (L : List Int) : Bool := L.all fun x => decide (low ≤ x ∧ x ≤ high)
theorem int_at' {w : World} {a : Option Addr} {n : Nat} {L : List Int} (h : Has .i64 w a n L) {k : Nat} (hk : k < n) : ∃ g off x, a = some ⟨g, off, none⟩ ∧ L[k]? = some x ∧ w.cell? ⟨g, off + k, none⟩ = some (.int .i64 x) := by
  obtain ⟨g, off, e, _, hc⟩ := h.some (by omega)
  have hk' : k < L.length := by rw [h.1]; exact hk
  have := hc k hk
  rw [List.getD_eq_getElem?_getD, List.getElem?_eq_getElem hk', Option.getD_some] at this
  exact ⟨g, off, _, e, List.getElem?_eq_getElem hk', this⟩
theorem num_at' {w : World} {a : Option Addr} {n : Nat} {L : List Int} (h : Has .u64 w a n L) {k : Nat} (hk : k < n) : ∃ g off x, a = some ⟨g, off, none⟩ ∧ L[k]? = some x ∧ w.cell? ⟨g, off + k, none⟩ = some (.int .u64 x) := by
  obtain ⟨g, off, e, _, hc⟩ := h.some (by omega)
  have hk' : k < L.length := by rw [h.1]; exact hk
  have := hc k hk
  rw [List.getD_eq_getElem?_getD, List.getElem?_eq_getElem hk', Option.getD_some] at this
  exact ⟨g, off, _, e, List.getElem?_eq_getElem hk', this⟩
set_option maxHeartbeats 2000000 in
set_option maxRecDepth 20000 in
theorem qwithin_any (low high : Int) (a : Option Addr) (n c : Nat) (L : List Int) (w : World) (hn : n ≤ 100000) (hL : Has .i64 w a n L) :
    Calls Tryz.prog 25 #[.int .i64 low, .int .i64 high, .slice a n c] w fun e w' => e = .returned (.bool (InC low high L)) ∧ w' = w := by
  have HL := hid hL
  have HN := hid hL.1
  clear hL
  go_enter Tryz.func25, Tryz.ntmps25
  go_wp2
  go_loop [11, 8] (fun q _ => ∃ k : Nat, k ≤ n ∧ q = .int .i64 k ∧ Hid (InC low high L = InC low high (L.drop k))) (fun q _ => n - (intOf q).toNat)
  case atStart => exact ⟨0, Nat.zero_le _, rfl, rfl⟩
  case round =>
    obtain ⟨k, hk, rfl, hz⟩ := hrel
    by_cases hlt : k < n
    · obtain ⟨g, off, y, ea', hy, r0⟩ := int_at' HL.out hlt
      subst ea'
      have hki : (k : Int) < (n : Int) := by omega
      have hst : InC low high (L.drop k) = (decide (low ≤ y ∧ y ≤ high) && InC low high (L.drop (k + 1))) := by
        obtain ⟨hk', e⟩ := List.getElem?_eq_some_iff.1 hy
        rw [List.drop_eq_getElem_cons hk', e]
        rfl
      clear hy
      by_cases h1 : y < low
      · have d1 := decide_eq_true h1
        have HR : Hid (InC low high L = false) := by show _ = _; rw [hz.out, hst, decide_eq_false (by omega)]; rfl
        clear hst hz
        go_wp2
        go_ret
        exact ⟨by rw [HR.out]; rfl, rfl⟩
      have d1 := decide_eq_false h1
      by_cases h2 : high < y
      · have d2 := decide_eq_true h2
        have HR : Hid (InC low high L = false) := by show _ = _; rw [hz.out, hst, decide_eq_false (by omega)]; rfl
        clear hst hz
        go_wp2
        go_ret
        exact ⟨by rw [HR.out]; rfl, rfl⟩
      · have d2 := decide_eq_false h2
        have HG : Hid (InC low high L = InC low high (L.drop (k + 1))) := by show _ = _; rw [hz.out, hst, decide_eq_true (by omega)]; rfl
        clear hst hz
        go_wp2
        go_round
        case rel => exact ⟨k + 1, by omega, by go_num, HG⟩
        case measure => simp [intOf]; omega
    · have ek : k = n := by omega
      have HR : Hid (InC low high L = true) := by show _ = _; rw [hz.out, ek, ← HN.out, List.drop_length]; rfl
      clear hz
      subst ek
      go_wp2
      go_ret
      exact ⟨by rw [HR.out]; rfl, rfl⟩
def NarC : List Int → List Int → Bool
  | x :: l, y :: ws => decide (blen x ≤ y) && NarC l ws
  | _, _ => true
theorem nar_drop {l ws : List Int} {k : Nat} {x y : Int} (hx : l[k]? = some x) (hy : ws[k]? = some y) : NarC (l.drop k) (ws.drop k) = (decide (blen x ≤ y) && NarC (l.drop (k + 1)) (ws.drop (k + 1))) := by
  obtain ⟨h1, e1⟩ := List.getElem?_eq_some_iff.1 hx
  obtain ⟨h2, e2⟩ := List.getElem?_eq_some_iff.1 hy
  rw [List.drop_eq_getElem_cons h1, List.drop_eq_getElem_cons h2, e1, e2]
  rfl
set_option maxHeartbeats 4000000 in
set_option maxRecDepth 20000 in
theorem qnarrow_any (a b : Option Addr) (n m c d : Nat) (l ws : List Int) (w : World) (hnm : n ≤ m) (hn : n ≤ 100000) (ha : Has .u64 w a n l) (hb : Has .i64 w b m ws) :
    Calls Tryz.prog 33 #[.slice a n c, .slice b m d] w fun e w' => e = .returned (.bool (NarC l ws)) ∧ Below w.heap.size w w' := by
  have HA := hid ha
  have HB := hid hb
  have HN := hid ha.1
  have HNU := hid ha.nums
  have HB0 : Hid (Below w.heap.size w w) := Below.refl _ _
  clear ha hb
  go_enter Tryz.func33, Tryz.ntmps33
  go_wp2
  go_loopw [9, 5, 6] (fun q _ _ wr => ∃ k : Nat, k ≤ n ∧ q = .int .i64 k ∧ Hid (NarC l ws = NarC (l.drop k) (ws.drop k)) ∧ Hid (Below w.heap.size w wr)) (fun q _ _ _ => n - (intOf q).toNat)
  case atStart => exact ⟨0, Nat.zero_le _, rfl, rfl, HB0⟩
  case round =>
    obtain ⟨k, hk, rfl, hz, hwr⟩ := hrel
    clear HB0
    by_cases hlt : k < n
    · obtain ⟨g, off, x, ea', hx, r0⟩ := num_at' (HA.out.step hwr.out) hlt
      obtain ⟨g2, off2, y, eb', hy, r1⟩ := int_at' (HB.out.step hwr.out) (show k < m by omega)
      subst ea' eb'
      have hki : (k : Int) < (n : Int) := by omega
      have hkm : (k : Int) < (m : Int) := by omega
      have hst := nar_drop hx hy
      have hx64 := HNU.out x (List.mem_of_getElem? hx)
      have r1' := cell_by r1
      have HLEN : Hid (∀ w', Calls Tryz.prog 36 #[.int .u64 x] w' fun e w'' => e = .returned (.int .i64 (blen x)) ∧ w'' = w') := fun w' => len64_any x w' hx64.1 hx64.2
      clear hx hy hx64
      generalize blen x = L at *
      by_cases h1 : y < L
      · have d1 := decide_eq_true h1
        have HR : Hid (NarC l ws = false) := by show _ = _; rw [hz.out, hst, decide_eq_false (by omega)]; rfl
        clear hst hz
        go_wp2_with fail
        haveI inhB : ∀ w : World, Inhabited (BelowBy w) := fun w => ⟨⟨w, Below.refl _ _⟩⟩
        refine wp_region_quiet_below (by kernel_rfl) (by kernel_rfl) ?_
        repeat (go_big_quiet_step (first | (go_at_call 36; exact calls_same _ (HLEN.out _))))
        refine wpQuiet_nil ?_
        intro wq hw'
        obtain ⟨⟨_, hwq⟩, hw''⟩ := hw'
        subst hw''
        have HE := hid (bl_step hwr.out hwq)
        clear hwq HLEN r1'
        go_wp2
        go_ret
        exact ⟨by rw [HR.out]; rfl, HE.out⟩
      · have d1 := decide_eq_false h1
        have HG : Hid (NarC l ws = NarC (l.drop (k + 1)) (ws.drop (k + 1))) := by show _ = _; rw [hz.out, hst, decide_eq_true (by omega)]; rfl
        clear hst hz
        go_wp2_with fail
        haveI inhB : ∀ w : World, Inhabited (BelowBy w) := fun w => ⟨⟨w, Below.refl _ _⟩⟩
        refine wp_region_quiet_below (by kernel_rfl) (by kernel_rfl) ?_
        repeat (go_big_quiet_step (first | (go_at_call 36; exact calls_same _ (HLEN.out _))))
        refine wpQuiet_nil ?_
        intro wq hw'
        obtain ⟨⟨_, hwq⟩, hw''⟩ := hw'
        subst hw''
        have HE := hid (bl_step hwr.out hwq)
        clear hwq HLEN r1' r0 r1 hwr
        go_wp2
        go_roundw
        case rel => exact ⟨k + 1, by omega, by go_num, HG, HE⟩
        case measure => simp [intOf]; omega
    · have ek : k = n := by omega
      have HR : Hid (NarC l ws = true) := by
        show _ = _
        rw [hz.out, ek, ← HN.out, List.drop_length]
        rfl
      have HE := hid hwr.out
      clear hz hwr
      subst ek
      go_wp2
      go_ret
      exact ⟨by rw [HR.out]; rfl, HE.out⟩
end Go.Proofs.YtffbnggdckjogaaGreat

namespace Go.Proofs.YtffbnggdckjogaaGreat
open Go.RowKit
structure SayD where
  act : Int
  params : QSl
  ps : List Int
def SayD.lie (d : SayD) (w : World) (g o : Nat) : Prop := CI w g o d.act ∧ CS w g (o + 1) d.params ∧ Has .i64 w d.params.a d.params.n d.ps
theorem SayD.keeps : Keeps SayD.lie := fun h b => ⟨h.1.step b, h.2.1.step b, h.2.2.step b⟩
set_option maxHeartbeats 1000000 in
set_option maxRecDepth 20000 in
theorem hit1_any (x : Int) (p : QSl) (hb : Nat) (act : Int) (w : World) (h0 : w.cell? ⟨hb, 0, none⟩ = some (.int .i64 act)) :
    Calls Tryz.prog 35 #[.agg #[.int .i64 x, .slice p.a p.n p.c], .pointer (some ⟨hb, 0, none⟩)] w fun e w' => e = .returned (.bool (x == act)) ∧ Below w.heap.size w w' := by
  have k0 : ∀ o, (w.alloc o).cell? ⟨hb, 0, none⟩ = some (.int .i64 act) := fun o => cell_keep h0 (bl_alloc (Below.refl _ _))
  clear h0
  go_enter Tryz.func35, Tryz.ntmps35
  go_wp2
  go_ret
  exact ⟨rfl, bl_alloc (Below.refl _ _)⟩
def SayAt (S : List SayD) (act i : Int) : Prop := (i = -1 ∧ ∀ s ∈ S, s.act ≠ act) ∨ ∃ (k : Nat) (s : SayD), i = k ∧ S[k]? = some s ∧ s.act = act
set_option maxHeartbeats 4000000 in
set_option maxRecDepth 20000 in
theorem sayidx_any (s : QSl) (S : List SayD) (hb : Nat) (act : Int) (w : World) (hn : s.n ≤ 100000) (hS : QRow 2 SayD.lie w s S) (h0 : w.cell? ⟨hb, 0, none⟩ = some (.int .i64 act)) :
    Calls Tryz.prog 34 #[.slice s.a s.n s.c, .func (.func 35) #[] #[.pointer (some ⟨hb, 0, none⟩)]] w fun e w' => ∃ i, e = .returned (.int .i64 i) ∧ SayAt S act i ∧ Below w.heap.size w w' := by
  obtain ⟨ea, ee⟩ : ∃ ea, s.a = ea := ⟨_, rfl⟩
  have HL := hid hS
  have HN := hid hS.1
  have H0 := hid h0
  have HB0 : Hid (Below w.heap.size w w) := Below.refl _ _
  rw [ee]
  have EE := hid ee
  clear hS h0 ee
  go_enter Tryz.func34, Tryz.ntmps34
  go_wp2
  go_loopw [8, 5] (fun q _ wr => ∃ k : Nat, k ≤ s.n ∧ q = .int .i64 k ∧ Hid (∀ (j : Nat) (x : SayD), j < k → S[j]? = some x → x.act ≠ act) ∧ Hid (Below w.heap.size w wr)) (fun q _ _ => s.n - (intOf q).toNat)
  case atStart => exact ⟨0, Nat.zero_le _, rfl, fun j _ hj => absurd hj (by omega), HB0⟩
  case round =>
    obtain ⟨k, hk, rfl, hz, hbl⟩ := hrel
    clear HB0
    by_cases hlt : k < s.n
    · obtain ⟨g, off, x, ea', hx, ⟨r0, _⟩, ⟨r1, _⟩, _⟩ := row_at (HL.out.step SayD.keeps hbl.out) hlt
      obtain rfl : ea = some ⟨g, off, none⟩ := by rw [← EE.out]; exact ea'
      have hki : (k : Int) < (s.n : Int) := by omega
      have HC := hid (hit1_any x.act x.params hb act wr (cell_keep H0.out hbl.out))
      clear ea'
      by_cases hxa : x.act = act
      · have HI : Hid (SayAt S act k) := .inr ⟨k, x, rfl, hx, hxa⟩
        have b1 : (x.act == act) = true := by simpa using hxa
        rw [b1] at HC
        clear hz hx hxa b1
        go_wp2_with fail
        refine HC.out.mono ?_
        rintro e w1 ⟨rfl, hb1⟩
        have HE := hid (bl_step hbl.out hb1)
        clear HC hb1 hbl
        go_wp2
        go_ret
        exact ⟨k, rfl, HI.out, HE.out⟩
      · have b1 : (x.act == act) = false := by simpa using hxa
        have HZ : Hid (∀ (j : Nat) (y : SayD), j < k + 1 → S[j]? = some y → y.act ≠ act) := fun j y hj hy => by
          by_cases ej : j = k
          · subst ej; rw [hx] at hy; cases hy; exact hxa
          · exact hz.out j y (by omega) hy
        rw [b1] at HC
        clear hz hx hxa b1
        go_wp2_with fail
        refine HC.out.mono ?_
        rintro e w1 ⟨rfl, hb1⟩
        have HE := hid (bl_step hbl.out hb1)
        clear HC hb1 hbl r0 r1
        go_wp2
        go_roundw
        case rel => exact ⟨k + 1, by omega, by go_num, HZ, HE⟩
        case measure => simp [intOf]; omega
    · have ek : k = s.n := by omega
      have HI : Hid (SayAt S act (-1)) := .inl ⟨rfl, fun x hx => by
        obtain ⟨i, hi⟩ := List.getElem?_of_mem hx
        have := (List.getElem?_eq_some_iff.1 hi).1
        exact hz.out i x (by rw [HN.out] at this; omega) hi⟩
      have HE := hid hbl.out
      clear hz hbl
      subst ek
      go_wp2
      go_ret
      exact ⟨-1, rfl, HI.out, HE.out⟩
def hit2 (zs ps : List Int) : Int := if zs.length ≠ ps.length then 2 else if NarC zs ps then 0 else 6
def SayIs (S : List SayD) (act : Int) (zs : List Int) (C : Int) : Prop := ((∀ s ∈ S, s.act ≠ act) ∧ C = 5) ∨ ∃ s ∈ S, s.act = act ∧ C = hit2 zs s.ps
def SayDone (S : List SayD) (act : Int) (zs : List Int) (w : World) (e : Ending) (w' : World) : Prop := ∃ C, e = .returned (.int .i64 C) ∧ SayIs S act zs C ∧ Below w.heap.size w w'
set_option maxHeartbeats 8000000 in
set_option maxRecDepth 20000 in
theorem qhit_any (rb : Nat) (s : QSl) (S : List SayD) (act : Int) (a : Option Addr) (n c : Nat) (zs : List Int) (w : World) (hn : s.n ≤ 100000) (hz : n ≤ 100000) (h2 : w.cell? ⟨rb, 2, none⟩ = some (.slice s.a s.n s.c)) (hS : QRow 2 SayD.lie w s S) (ha : Has .u64 w a n zs) :
    Calls Tryz.prog 27 #[.pointer (some ⟨rb, 0, none⟩), .agg #[.int .i64 act, .slice a n c]] w (SayDone S act zs w) := by
  obtain ⟨W1, hW⟩ : ∃ W1, W1 = w.alloc (.cells #[.int .i64 act, .slice a n c] 50) := ⟨_, rfl⟩
  obtain ⟨hb, h0⟩ : ∃ hb, hb = w.heap.size := ⟨_, rfl⟩
  have z0 : W1.cell? ⟨hb, 0, none⟩ = some (.int .i64 act) := by rw [hW, h0]; exact (World.cell?_alloc_at _ _ _ _ rfl).trans rfl
  have z1 : W1.cell? ⟨hb, 1, none⟩ = some (.slice a n c) := by rw [hW, h0]; exact (World.cell?_alloc_at _ _ _ _ rfl).trans rfl
  have HB : Hid (Below w.heap.size w W1) := by rw [hW]; exact bl_alloc (Below.refl _ _)
  have y2 := cell_keep h2 HB.out
  have k2 : ∀ o, (w.alloc o).cell? ⟨rb, 2, none⟩ = some (.slice s.a s.n s.c) := fun o => cell_keep h2 (bl_alloc (Below.refl _ _))
  have HIX := hid (sayidx_any s S hb act W1 hn (hS.step SayD.keeps HB.out) z0)
  have E1 := hid hW
  have E0 := hid h0
  have HS := hid hS
  have HA := hid ha
  clear hW h0 h2 hS ha
  have hmf : ∀ (fn : Fn) (first cap : Array Value) (w : World), (Instr.makeFunc fn first cap).run Tryz.prog w = .ok (.func fn first cap) w := fun _ _ _ _ => rfl
  go_enter Tryz.func27, Tryz.ntmps27
  go_wp2_with fail
  rw [← E1.out, ← E0.out]
  refine HIX.out.mono ?_
  rintro e w1 ⟨i, rfl, hi, hb1⟩
  have HB1 := hid (bl_step HB.out hb1)
  have z0 := cell_keep z0 hb1
  have z1 := cell_keep z1 hb1
  have y2 := cell_keep y2 hb1
  clear HIX hb1 HB E1 E0 k2
  rcases hi with ⟨rfl, hno⟩ | ⟨k, x, rfl, hx, hxa⟩
  · have HD : Hid (SayIs S act zs 5) := .inl ⟨hno, rfl⟩
    clear hno
    go_wp2
    go_ret
    exact ⟨5, rfl, HD.out, HB1.out⟩
  have hk : k < s.n := by have := (List.getElem?_eq_some_iff.1 hx).1; rw [HS.out.1] at this; exact this
  obtain ⟨g, off, x', ea, hx', ⟨r0, _⟩, ⟨r1, _⟩, hps⟩ := row_at (HS.out.step SayD.keeps HB1.out) hk
  obtain rfl : x = x' := by rw [hx] at hx'; exact Option.some.inj hx'
  have hki : (k : Int) < (s.n : Int) := by omega
  have d0 : decide ((k : Int) < 0) = false := decide_eq_false (by omega)
  have HPS := hid hps
  have HMEM := hid (List.mem_of_getElem? hx)
  have HXA := hid hxa
  rw [ea] at y2
  have z1' := cell_by z1
  have y2' := cell_by y2
  have r1' := cell_by r1
  clear hx hx' hxa hps
  by_cases hl : (n : Int) = (x.params.n : Int)
  · have b1 : ((n : Int) != (x.params.n : Int)) = false := by simpa using hl
    have HNC : Hid (∀ p : BelowBy w1, Calls Tryz.prog 33 #[.slice a n c, .slice x.params.a x.params.n x.params.c] p.to fun e w'' => e = .returned (.bool (NarC zs x.ps)) ∧ Below p.to.heap.size p.to w'') := fun p => qnarrow_any a x.params.a n x.params.n c x.params.c zs x.ps p.to (by omega) hz ((HA.out.step HB1.out).step p.h) (HPS.out.step p.h)
    have HC2 : Hid (hit2 zs x.ps = if NarC zs x.ps then 0 else 6) := by
      show hit2 zs x.ps = _
      unfold hit2
      rw [if_neg (by have h1 := HA.out.1; have h2 := HPS.out.1; omega)]
    have HL := hid hl
    clear hl
    go_wp2_with fail
    haveI inhB : ∀ w : World, Inhabited (BelowBy w) := fun w => ⟨⟨w, Below.refl _ _⟩⟩
    refine wp_region_quiet_below (by kernel_rfl) (by kernel_rfl) ?_
    repeat (go_big_quiet_step (fail))
    refine wpQuiet_nil ?_
    intro wq hw'
    obtain ⟨⟨_, hwq⟩, hw''⟩ := hw'
    subst hw''
    have HBQ := hid (bl_step HB1.out hwq)
    have HNC : Hid (∀ p : BelowBy wq, Calls Tryz.prog 33 #[.slice a n c, .slice x.params.a x.params.n x.params.c] p.to fun e w'' => e = .returned (.bool (NarC zs x.ps)) ∧ Below p.to.heap.size p.to w'') := fun p => HNC.out ⟨p.to, bl_step hwq p.h⟩
    have z1 := cell_keep z1 hwq
    have y2 := cell_keep y2 hwq
    have r1 := cell_keep r1 hwq
    clear z1' y2' r1'
    have z1' := cell_by z1
    have y2' := cell_by y2
    have r1' := cell_by r1
    clear hwq HB1
    cases hN : NarC zs x.ps with
    | true =>
      have HD : Hid (SayIs S act zs 0) := .inr ⟨x, HMEM.out, HXA.out, by rw [HC2.out, hN]; rfl⟩
      rw [hN] at HNC
      clear hN HC2
      go_wp2_with fail
      haveI inhB : ∀ w : World, Inhabited (BelowBy w) := fun w => ⟨⟨w, Below.refl _ _⟩⟩
      refine wp_region_quiet_below (by kernel_rfl) (by kernel_rfl) ?_
      repeat (go_big_quiet_step (first | (go_at_call 33; exact calls_below _ (HNC.out _))))
      refine wpQuiet_nil ?_
      intro wr hw'
      obtain ⟨⟨_, hwr⟩, hw''⟩ := hw'
      subst hw''
      have HE := hid (bl_step HBQ.out hwr)
      clear hwr HNC HBQ
      go_wp2
      go_ret
      exact ⟨0, rfl, HD.out, HE.out⟩
    | false =>
      have HD : Hid (SayIs S act zs 6) := .inr ⟨x, HMEM.out, HXA.out, by rw [HC2.out, hN]; rfl⟩
      rw [hN] at HNC
      clear hN HC2
      go_wp2_with fail
      haveI inhB : ∀ w : World, Inhabited (BelowBy w) := fun w => ⟨⟨w, Below.refl _ _⟩⟩
      refine wp_region_quiet_below (by kernel_rfl) (by kernel_rfl) ?_
      repeat (go_big_quiet_step (first | (go_at_call 33; exact calls_below _ (HNC.out _))))
      refine wpQuiet_nil ?_
      intro wr hw'
      obtain ⟨⟨_, hwr⟩, hw''⟩ := hw'
      subst hw''
      have HE := hid (bl_step HBQ.out hwr)
      clear hwr HNC HBQ
      go_wp2
      go_ret
      exact ⟨6, rfl, HD.out, HE.out⟩
  · have b1 : ((n : Int) != (x.params.n : Int)) = true := by simpa using hl
    have HD : Hid (SayIs S act zs 2) := .inr ⟨x, HMEM.out, HXA.out, by unfold hit2; rw [if_pos (by have h1 := HA.out.1; have h2 := HPS.out.1; omega)]⟩
    clear hl
    go_wp2_with fail
    haveI inhB : ∀ w : World, Inhabited (BelowBy w) := fun w => ⟨⟨w, Below.refl _ _⟩⟩
    refine wp_region_quiet_below (by kernel_rfl) (by kernel_rfl) ?_
    repeat (go_big_quiet_step (fail))
    refine wpQuiet_nil ?_
    intro wq hw'
    obtain ⟨⟨_, hwq⟩, hw''⟩ := hw'
    subst hw''
    have HE := hid (bl_step HB1.out hwq)
    clear hwq HB1
    go_wp2
    go_ret
    exact ⟨2, rfl, HD.out, HE.out⟩
end Go.Proofs.YtffbnggdckjogaaGreat
