/- The document's meet, where both are there. -/
import Derived.Test.YtmohffibkpecpaaJB
namespace Go.Proofs.Ytmohffibkpecpaa
open Go.RowKit

/-- while a Knows of its own is made -/
structure MtAt (W3 : World) (S : Nat) (q : KV) (N : Nat → Nat) (kb rb : Nat) (A B : Nat → Bool) (Z : Nat → Int) (L : Nat → Bool) (w : World) : Prop where
  k : KRaw W3.heap.size S q A B N Z L w
  kx : BoxC w kb (kvA true q) 54
  rx : BoxC w rb zeroK 54
  bel : Below W3.heap.size W3 w
theorem MtAt.step {W3 : World} {S : Nat} {q : KV} {N : Nat → Nat} {kb rb : Nat} {A B : Nat → Bool} {Z : Nat → Int} {L : Nat → Bool} {w w' : World} (h : MtAt W3 S q N kb rb A B Z L w) (b : Below w.heap.size w w') : MtAt W3 S q N kb rb A B Z L w' := ⟨h.k.step b, h.kx.step b, h.rx.step b, bl_step h.bel b⟩
theorem own_ne_box {w : World} {T : TypeId} {s : QSl} {n : Nat} {f : Nat → Value} (h : OwnF w T s n f) (hn : 0 < n) {g : Nat} (hg : s.a = some ⟨g, 0, none⟩) {b : Nat} {cs : Array Value} (hb : BoxC w b cs 54) (hT : T ≠ 54) : ¬ g = b := fun e => by
  subst e
  obtain ⟨g', e', _, cur, hh⟩ := h.block hn
  rw [hg] at e'
  cases e'
  have hb' : w.heap[g]? = some (.cells cs 54 (0, 0)) := hb
  rw [hb'] at hh
  simp only [Option.some.injEq, Obj.cells.injEq] at hh
  exact hT hh.2.1.symm
theorem MtAt.congr {W3 : World} {S : Nat} {q : KV} {N : Nat → Nat} {kb rb : Nat} {A B A' B' : Nat → Bool} {Z Z' : Nat → Int} {L L' : Nat → Bool} {w : World} (h : MtAt W3 S q N kb rb A B Z L w) (e1 : ∀ i, A i = A' i) (e2 : ∀ i, B i = B' i) (e3 : ∀ i, Z i = Z' i) (e4 : ∀ i, L i = L' i) : MtAt W3 S q N kb rb A' B' Z' L' w := ⟨h.k.congr e1 e2 e3 e4, h.kx, h.rx, h.bel⟩
theorem MtAt.putA {W3 : World} {S : Nat} {q : KV} {N : Nat → Nat} {kb rb : Nat} {A B : Nat → Bool} {Z : Nat → Int} {L : Nat → Bool} {w : World} (h : MtAt W3 S q N kb rb A B Z L w) {g1 g2 g3 g4 : Nat} (ka : KAt q W3.heap.size g1 g2 g3 g4) {i : Nat} (hi : i < 10) (b : Bool) : MtAt W3 S q N kb rb (fun j => if j = i then b else A j) B Z L (w.setCell ⟨g1, i, none⟩ (.bool b)) :=
  ⟨h.k.putA ka.e1 hi b, h.kx.far (own_ne_box h.k.st (by omega) ka.e1 h.kx (by decide)) _ _, h.rx.far (own_ne_box h.k.st (by omega) ka.e1 h.rx (by decide)) _ _, hput1 h.bel ka.b1 _ _⟩
theorem MtAt.putB {W3 : World} {S : Nat} {q : KV} {N : Nat → Nat} {kb rb : Nat} {A B : Nat → Bool} {Z : Nat → Int} {L : Nat → Bool} {w : World} (h : MtAt W3 S q N kb rb A B Z L w) {g1 g2 g3 g4 : Nat} (ka : KAt q W3.heap.size g1 g2 g3 g4) {i : Nat} (hi : i < 10) (b : Bool) : MtAt W3 S q N kb rb A (fun j => if j = i then b else B j) Z L (w.setCell ⟨g2, i, none⟩ (.bool b)) :=
  ⟨h.k.putB ka.e2 hi b, h.kx.far (own_ne_box h.k.ju (by omega) ka.e2 h.kx (by decide)) _ _, h.rx.far (own_ne_box h.k.ju (by omega) ka.e2 h.rx (by decide)) _ _, hput1 h.bel ka.b2 _ _⟩
theorem MtAt.putZ {W3 : World} {S : Nat} {q : KV} {N : Nat → Nat} {kb rb : Nat} {A B : Nat → Bool} {Z : Nat → Int} {L : Nat → Bool} {w : World} (h : MtAt W3 S q N kb rb A B Z L w) {g1 g2 g3 g4 : Nat} (ka : KAt q W3.heap.size g1 g2 g3 g4) {i : Nat} (hi : i < 10) (b : Int) : MtAt W3 S q N kb rb A B (fun j => if j = i then b else Z j) L (w.setCell ⟨g4, i, none⟩ (.int .i64 b)) :=
  ⟨h.k.putZ ka.e4 hi b, h.kx.far (own_ne_box h.k.ro (by omega) ka.e4 h.kx (by decide)) _ _, h.rx.far (own_ne_box h.k.ro (by omega) ka.e4 h.rx (by decide)) _ _, hput1 h.bel ka.b4 _ _⟩

theorem OwnF.same {w : World} {T : TypeId} {s : QSl} {n : Nat} {f f' : Nat → Value} (h : OwnF w T s n f) (e : ∀ i, i < n → f i = f' i) : OwnF w T s n f' := ⟨h.1, h.2.1, fun hn => by
  obtain ⟨g, cur, ea, hh, hc⟩ := h.2.2 hn
  exact ⟨g, cur, ea, hh, fun i hi => by rw [← e i hi]; exact hc i hi⟩⟩
def meetB (x y ja jb : Bool) (na nb : Nat) : Bool := ((x && y) && ja) && jb && (na == nb)
def meetZ (x y : Bool) (z u : Int) : Int := if (x && y) = true then (if u < z then u else z) else -1
theorem meet_just {r t : RD} (hr : r.ok) (ht : t.ok) {na nb : Nat} (ha : ∀ n, r.just = some n → na = n) (hb : ∀ n, t.just = some n → nb = n) : (r.join t).just.isSome = meetB r.set t.set r.just.isSome t.just.isSome na nb := by
  unfold meetB
  show (sameO r.just t.just).isSome = _
  cases e1 : r.just with
  | none =>
    unfold sameO
    cases e2 : t.just <;> simp
  | some n =>
    have h1 : r.set = true := by
      cases e : r.set
      · have := (hr.2.2 e).1; rw [e1] at this; cases this
      · rfl
    cases e2 : t.just with
    | none => unfold sameO; simp
    | some m =>
      have h2 : t.set = true := by
        cases e : t.set
        · have := (ht.2.2 e).1; rw [e2] at this; cases this
        · rfl
      rw [ha n e1, hb m e2, h1, h2]
      unfold sameO
      by_cases e : n = m
      · simp [e]
      · simp [e]
theorem meet_room {r t : RD} (hr : r.ok) (ht : t.ok) : roomZ (r.join t).room = meetZ r.set t.set (roomZ r.room) (roomZ t.room) := by
  unfold meetZ
  show roomZ (leastO r.room t.room) = _
  cases e1 : r.room with
  | none =>
    have : leastO none t.room = none := by cases t.room <;> rfl
    rw [this]
    split
    · cases e2 : t.room with
      | none => simp [roomZ]
      | some m => have : ¬ ((m : Int) < -1) := by omega
                  simp [roomZ, this]
    · rfl
  | some n =>
    have h1 : r.set = true := by
      cases e : r.set
      · have := (hr.2.2 e).2; rw [e1] at this; cases this
      · rfl
    cases e2 : t.room with
    | none =>
      have hlt : ((-1 : Int)) < (n : Int) := by omega
      cases t.set <;> simp [leastO, roomZ, h1, hlt]
    | some m =>
      have h2 : t.set = true := by
        cases e : t.set
        · have := (ht.2.2 e).2; rw [e2] at this; cases this
        · rfl
      rw [h1, h2]
      simp only [leastO, roomZ, Bool.and_self, if_true]
      show ((min n m : Nat) : Int) = if (m : Int) < (n : Int) then (m : Int) else (n : Int)
      by_cases h : (m : Int) < (n : Int)
      · rw [if_pos h]; omega
      · rw [if_neg h]; omega

set_option maxHeartbeats 8000000 in
set_option maxRecDepth 20000 in
theorem kmeet_some (S : Nat) (hS : S ≤ 96) (qa qb : KV) (sa sb : SD) (Na Nb : Nat → Nat) (w : World) (ha : KLie S qa sa Na w) (hb : KLie S qb sb Nb w) (oka : sa.ok) (okb : sb.ok) : Calls Try.prog 17 #[KV.v true qa, KV.v true qb] w (OwnKIs S true (sa.join sb) Na w) := by
  obtain ⟨W3, hW3⟩ : ∃ W, W = ((w.alloc (.cells (kvA true qa) 54)).alloc (.cells (kvA true qb) 54)).alloc (.cells zeroK 54) := ⟨_, rfl⟩
  obtain ⟨ab, hab⟩ : ∃ b, b = w.heap.size := ⟨_, rfl⟩
  obtain ⟨bb, hbb⟩ : ∃ b, b = w.heap.size + 1 := ⟨_, rfl⟩
  obtain ⟨rb, hrb⟩ : ∃ b, b = w.heap.size + 1 + 1 := ⟨_, rfl⟩
  have b3 : Below w.heap.size w W3 := by rw [hW3]; exact bl_alloc (bl_alloc (bl_alloc (Below.refl _ _)))
  have xa : BoxC W3 ab (kvA true qa) 54 := by rw [hW3, hab]; exact BoxC.step (boxc_new _ _ _ rfl) (bl_alloc (bl_alloc (Below.refl _ _)))
  have xb : BoxC W3 bb (kvA true qb) 54 := by rw [hW3, hbb]; exact BoxC.step (boxc_new _ _ _ (by simp)) (bl_alloc (Below.refl _ _))
  have xr : BoxC W3 rb zeroK 54 := by rw [hW3, hrb]; exact boxc_new _ _ _ (by simp)
  have ha3 := ha.step b3
  have hb3 := hb.step b3
  have a0 : W3.cell? ⟨ab, 0, none⟩ = some (.bool true) := xa.cell 0
  have k1 : W3.cell? ⟨ab, 1, none⟩ = some (.slice qa.st.a qa.st.n qa.st.c) := xa.cell 1
  have k2 : W3.cell? ⟨ab, 2, none⟩ = some (.slice qa.ju.a qa.ju.n qa.ju.c) := xa.cell 2
  have k3 : W3.cell? ⟨ab, 3, none⟩ = some (.slice qa.nu.a qa.nu.n qa.nu.c) := xa.cell 3
  have k4 : W3.cell? ⟨ab, 4, none⟩ = some (.slice qa.ro.a qa.ro.n qa.ro.c) := xa.cell 4
  have k5 : W3.cell? ⟨ab, 5, none⟩ = some (.slice qa.sl.a qa.sl.n qa.sl.c) := xa.cell 5
  have hla := xa.lt
  have HXA := hid xa
  have HXB := hid xb
  have HA3 := hid ha3
  have HBB3 := hid hb3
  have HO := hid (kown S hS true qa sa Na W3 ha3)
  dsimp only [KV.v] at HO
  have HB := hid b3
  have HXR := hid xr
  have HRB : Hid (w.heap.size ≤ rb ∧ rb < W3.heap.size) := ⟨by omega, xr.lt⟩
  have EW := hid hW3
  have EA := hid hab
  have EB := hid hbb
  have ER := hid hrb
  clear hW3 hab hbb hrb b3 xa xb xr ha hb ha3 hb3
  dsimp only [KV.v]
  go_enter Try.func17, Try.ntmps17
  go_upto_region 1 with fail
  rw [← EW.out, ← ER.out, ← EB.out, ← EA.out]
  clear EW ER EB EA
  go_wp2_with fail
  refine HO.out.mono ?_
  rintro e w4 ⟨q, rfl, hk, hb4⟩
  obtain ⟨W5, hW5⟩ : ∃ W, W = w4.alloc (.cells (kvA true q) 54) := ⟨_, rfl⟩
  obtain ⟨kb, hkb⟩ : ∃ b, b = w4.heap.size := ⟨_, rfl⟩
  have b5 : Below w4.heap.size w4 W5 := by rw [hW5]; exact bl_alloc (Below.refl _ _)
  have HM0 : Hid (MtAt W3 S q Na kb rb (fun j => (sa.reg j).set) (fun j => (sa.reg j).just.isSome) (fun j => roomZ (sa.reg j).room) sa.slot W5) := ⟨hk.1.step b5, by rw [hW5, hkb]; exact boxc_new _ _ _ rfl, HXR.out.step (bl_step hb4 b5), bl_step hb4 b5⟩
  have HKB : Hid (W3.heap.size ≤ kb) := by rw [hkb]; exact hb4.size
  have HNO := hid hk.2
  obtain ⟨g1, g2, g3, g4, ka⟩ := hk.1.blocks
  have HKA := hid ka
  obtain ⟨ga1, oa1, ea1, na1, ca1⟩ := HA3.out.st.pos (by decide)
  obtain ⟨ga2, oa2, ea2, na2, ca2⟩ := HA3.out.ju.pos (by decide)
  obtain ⟨ga3, oa3, ea3, na3, ca3⟩ := HA3.out.nu.pos (by decide)
  obtain ⟨gb1, ob1, eb1, nb1, cb1⟩ := HBB3.out.st.pos (by decide)
  obtain ⟨gb2, ob2, eb2, nb2, cb2⟩ := HBB3.out.ju.pos (by decide)
  obtain ⟨gb3, ob3, eb3, nb3, cb3⟩ := HBB3.out.nu.pos (by decide)
  obtain ⟨gb4, ob4, eb4, nb4, cb4⟩ := HBB3.out.ro.pos (by decide)
  have HCA : Hid (∀ wr, Below W3.heap.size W3 wr → wr.cell? ⟨ab, 1, none⟩ = some (.slice (some ⟨ga1, oa1, none⟩) 10 qa.st.c) ∧ wr.cell? ⟨ab, 2, none⟩ = some (.slice (some ⟨ga2, oa2, none⟩) 10 qa.ju.c) ∧ wr.cell? ⟨ab, 3, none⟩ = some (.slice (some ⟨ga3, oa3, none⟩) 10 qa.nu.c)) := fun wr h => by
    have hx := HXA.out.step h
    have h1 : wr.cell? ⟨ab, 1, none⟩ = some (.slice qa.st.a qa.st.n qa.st.c) := hx.cell 1
    have h2 : wr.cell? ⟨ab, 2, none⟩ = some (.slice qa.ju.a qa.ju.n qa.ju.c) := hx.cell 2
    have h3 : wr.cell? ⟨ab, 3, none⟩ = some (.slice qa.nu.a qa.nu.n qa.nu.c) := hx.cell 3
    rw [ea1, na1] at h1
    rw [ea2, na2] at h2
    rw [ea3, na3] at h3
    exact ⟨h1, h2, h3⟩
  have HCB : Hid (∀ wr, Below W3.heap.size W3 wr → wr.cell? ⟨bb, 1, none⟩ = some (.slice (some ⟨gb1, ob1, none⟩) 10 qb.st.c) ∧ wr.cell? ⟨bb, 2, none⟩ = some (.slice (some ⟨gb2, ob2, none⟩) 10 qb.ju.c) ∧ wr.cell? ⟨bb, 3, none⟩ = some (.slice (some ⟨gb3, ob3, none⟩) 10 qb.nu.c) ∧ wr.cell? ⟨bb, 4, none⟩ = some (.slice (some ⟨gb4, ob4, none⟩) 10 qb.ro.c)) := fun wr h => by
    have hx := HXB.out.step h
    have h1 : wr.cell? ⟨bb, 1, none⟩ = some (.slice qb.st.a qb.st.n qb.st.c) := hx.cell 1
    have h2 : wr.cell? ⟨bb, 2, none⟩ = some (.slice qb.ju.a qb.ju.n qb.ju.c) := hx.cell 2
    have h3 : wr.cell? ⟨bb, 3, none⟩ = some (.slice qb.nu.a qb.nu.n qb.nu.c) := hx.cell 3
    have h4 : wr.cell? ⟨bb, 4, none⟩ = some (.slice qb.ro.a qb.ro.n qb.ro.c) := hx.cell 4
    rw [eb1, nb1] at h1
    rw [eb2, nb2] at h2
    rw [eb3, nb3] at h3
    rw [eb4, nb4] at h4
    exact ⟨h1, h2, h3, h4⟩
  have HCK : Hid (∀ wr, BoxC wr kb (kvA true q) 54 → wr.cell? ⟨kb, 1, none⟩ = some (.slice (some ⟨g1, 0, none⟩) 10 q.st.c) ∧ wr.cell? ⟨kb, 2, none⟩ = some (.slice (some ⟨g2, 0, none⟩) 10 q.ju.c) ∧ wr.cell? ⟨kb, 4, none⟩ = some (.slice (some ⟨g4, 0, none⟩) 10 q.ro.c)) := fun wr hx => by
    have h1 : wr.cell? ⟨kb, 1, none⟩ = some (.slice q.st.a q.st.n q.st.c) := hx.cell 1
    have h2 : wr.cell? ⟨kb, 2, none⟩ = some (.slice q.ju.a q.ju.n q.ju.c) := hx.cell 2
    have h4 : wr.cell? ⟨kb, 4, none⟩ = some (.slice q.ro.a q.ro.n q.ro.c) := hx.cell 4
    rw [ka.e1, ka.n1] at h1
    rw [ka.e2, ka.n2] at h2
    rw [ka.e4, ka.n4] at h4
    exact ⟨h1, h2, h4⟩
  have HRW : Hid (∀ wr, Below W3.heap.size W3 wr → ∀ i, i < 10 → wr.cell? ⟨ga1, oa1 + i, none⟩ = some (.bool (sa.reg i).set) ∧ wr.cell? ⟨ga2, oa2 + i, none⟩ = some (.bool (sa.reg i).just.isSome) ∧ wr.cell? ⟨ga3, oa3 + i, none⟩ = some (.int .u64 ((Na i : Nat) : Int)) ∧ wr.cell? ⟨gb1, ob1 + i, none⟩ = some (.bool (sb.reg i).set) ∧ wr.cell? ⟨gb2, ob2 + i, none⟩ = some (.bool (sb.reg i).just.isSome) ∧ wr.cell? ⟨gb3, ob3 + i, none⟩ = some (.int .u64 ((Nb i : Nat) : Int)) ∧ wr.cell? ⟨gb4, ob4 + i, none⟩ = some (.int .i64 (roomZ (sb.reg i).room))) := fun wr h i hi => ⟨cell_keep (ca1 i hi) h, cell_keep (ca2 i hi) h, cell_keep (ca3 i hi) h, cell_keep (cb1 i hi) h, cell_keep (cb2 i hi) h, cell_keep (cb3 i hi) h, cell_keep (cb4 i hi) h⟩
  have HOKA := hid oka
  have HOKB := hid okb
  have E5 := hid hW5
  have EKB := hid hkb
  clear hk hb4 b5 hW5 hkb ka HO a0 k1 k2 k3 k4 k5 hla ea1 ea2 ea3 eb1 eb2 eb3 eb4 na1 na2 na3 nb1 nb2 nb3 nb4 ca1 ca2 ca3 cb1 cb2 cb3 cb4 oka okb
  go_upto_region 4 with fail
  rw [← E5.out, ← EKB.out]
  clear E5 EKB
  go_wp2
  haveI inhB : ∀ w : World, Inhabited (BelowBy w) := fun w => ⟨⟨w, Below.refl _ _⟩⟩
  go_loopw [6] (fun v wr => ∃ i : Nat, i ≤ 10 ∧ v = .int .i64 i ∧ Hid (MtAt W3 S q Na kb rb (fun j => if j < i then ((sa.join sb).reg j).set else (sa.reg j).set) (fun j => if j < i then ((sa.join sb).reg j).just.isSome else (sa.reg j).just.isSome) (fun j => if j < i then roomZ ((sa.join sb).reg j).room else roomZ (sa.reg j).room) sa.slot wr)) (fun v _ => 10 - (intOf v).toNat)
  case atStart => exact ⟨0, Nat.zero_le _, rfl, HM0.out.congr (fun j => by simp) (fun j => by simp) (fun j => by simp) (fun _ => rfl)⟩
  case round =>
    obtain ⟨i, hi, rfl, M⟩ := hrel
    clear HM0
    by_cases hlt : i < 10
    · have hii : (i : Int) < 10 := by omega
      have ej := meet_just (HOKA.out i) (HOKB.out i) (HA3.out.ok i hlt).2 (HBB3.out.ok i hlt).2
      have er := meet_room (HOKA.out i) (HOKB.out i)
      obtain ⟨fA, hfA⟩ : ∃ f : Nat → Bool, f = (fun j => if j < i then ((sa.join sb).reg j).set else (sa.reg j).set) := ⟨_, rfl⟩
      obtain ⟨fB, hfB⟩ : ∃ f : Nat → Bool, f = (fun j => if j < i then ((sa.join sb).reg j).just.isSome else (sa.reg j).just.isSome) := ⟨_, rfl⟩
      obtain ⟨fZ, hfZ⟩ : ∃ f : Nat → Int, f = (fun j => if j < i then roomZ ((sa.join sb).reg j).room else roomZ (sa.reg j).room) := ⟨_, rfl⟩
      rw [← hfA, ← hfB, ← hfZ] at M
      have fa : fA i = (sa.reg i).set := by rw [hfA]; simp
      have fb : fB i = (sa.reg i).just.isSome := by rw [hfB]; simp
      have fz : fZ i = roomZ (sa.reg i).room := by rw [hfZ]; simp
      have HNEXT : Hid (∀ w', MtAt W3 S q Na kb rb (fun j => if j = i then ((sa.reg i).set && (sb.reg i).set) else fA j) (fun j => if j = i then meetB (sa.reg i).set (sb.reg i).set (sa.reg i).just.isSome (sb.reg i).just.isSome (Na i) (Nb i) else fB j) (fun j => if j = i then meetZ (sa.reg i).set (sb.reg i).set (roomZ (sa.reg i).room) (roomZ (sb.reg i).room) else fZ j) sa.slot w' → MtAt W3 S q Na kb rb (fun j => if j < i + 1 then ((sa.join sb).reg j).set else (sa.reg j).set) (fun j => if j < i + 1 then ((sa.join sb).reg j).just.isSome else (sa.reg j).just.isSome) (fun j => if j < i + 1 then roomZ ((sa.join sb).reg j).room else roomZ (sa.reg j).room) sa.slot w') := fun w' h => by
        rw [hfA, hfB, hfZ] at h
        refine h.congr (fun j => ?_) (fun j => ?_) (fun j => ?_) (fun _ => rfl)
        · by_cases e : j = i
          · subst e; rw [if_pos rfl, if_pos (by omega)]; rfl
          · rw [if_neg e]
            dsimp only
            by_cases e2 : j < i
            · rw [if_pos e2, if_pos (by omega)]
            · rw [if_neg e2, if_neg (by omega)]
        · by_cases e : j = i
          · subst e; rw [if_pos rfl, if_pos (by omega)]; exact ej.symm
          · rw [if_neg e]
            dsimp only
            by_cases e2 : j < i
            · rw [if_pos e2, if_pos (by omega)]
            · rw [if_neg e2, if_neg (by omega)]
        · by_cases e : j = i
          · subst e; rw [if_pos rfl, if_pos (by omega)]; exact er.symm
          · rw [if_neg e]
            dsimp only
            by_cases e2 : j < i
            · rw [if_pos e2, if_pos (by omega)]
            · rw [if_neg e2, if_neg (by omega)]
      have HRWi := hid (fun wr h => HRW.out wr h i hlt)
      clear ej er hfA hfB hfZ
      generalize (sa.reg i).set = x at *
      generalize (sb.reg i).set = y at *
      generalize (sa.reg i).just.isSome = ja at *
      generalize (sb.reg i).just.isSome = jb at *
      generalize Na i = na at *
      generalize Nb i = nb at *
      generalize roomZ (sa.reg i).room = z at *
      generalize roomZ (sb.reg i).room = u at *
      have HFA := hid fa
      have HFB := hid fb
      have HFZ := hid fz
      clear fa fb fz
      cases x with
      | false =>
        by_cases hz : u < z
        · have hui : u < z := by assumption
          have eX : (false && y) = false := by simp
          have eJ : meetB false y ja jb na nb = false := by simp [meetB]
          have eZ : meetZ false y z u = -1 := by simp [meetZ]
          obtain ⟨q1, q2, q4⟩ := HCK.out wr M.out.kx
          obtain ⟨p1, p2, p3⟩ := HCA.out wr M.out.bel
          obtain ⟨r1, r2, r3, r4⟩ := HCB.out wr M.out.bel
          obtain ⟨a1, a2, a3, b1, b2, b3, b4⟩ := HRWi.out wr M.out.bel
          have lk : kb < wr.heap.size := World.block_lt_of_cell? _ _ q1
          have lab : ab < wr.heap.size := World.block_lt_of_cell? _ _ p1
          have lbb : bb < wr.heap.size := World.block_lt_of_cell? _ _ r1
          have la1 : ga1 < wr.heap.size := World.block_lt_of_cell? _ _ a1
          have la2 : ga2 < wr.heap.size := World.block_lt_of_cell? _ _ a2
          have la3 : ga3 < wr.heap.size := World.block_lt_of_cell? _ _ a3
          have lb1 : gb1 < wr.heap.size := World.block_lt_of_cell? _ _ b1
          have lb2 : gb2 < wr.heap.size := World.block_lt_of_cell? _ _ b2
          have lb3 : gb3 < wr.heap.size := World.block_lt_of_cell? _ _ b3
          have lb4 : gb4 < wr.heap.size := World.block_lt_of_cell? _ _ b4
          obtain ⟨c1, c2, c3, c4, f1, f2, f3, f4, l1, l2, l3, l4⟩ := M.out.k.reg HKA.out hlt
          rw [HFA.out] at c1
          rw [HFB.out] at c2
          rw [HFZ.out] at c4
          have q1' := cell_by q1
          have q2' := cell_by q2
          have q4' := cell_by q4
          have p1' := cell_by p1
          have p2' := cell_by p2
          have p3' := cell_by p3
          have r1' := cell_by r1
          have r2' := cell_by r2
          have r3' := cell_by r3
          have r4' := cell_by r4
          have a1' := cell_by a1
          have a2' := cell_by a2
          have a3' := cell_by a3
          have b1' := cell_by b1
          have b2' := cell_by b2
          have b3' := cell_by b3
          have b4' := cell_by b4
          go_wp2_with fail
          refine wp_region_cutQ 16 (by kernel_rfl) (by kernel_rfl) ?_
          simp only [List.take_succ_cons, List.take_zero]
          repeat (go_big_quiet_step (fail))
          refine wpQuiet_nil ?_
          intro wq hw'
          obtain ⟨⟨_, hwq⟩, hw''⟩ := hw'
          subst hw''
          simp only [List.drop_succ_cons, List.drop_zero]
          have M7 := hid ((M.out.step hwq).putA HKA.out hlt false)
          replace c1 := cell_keep c1 hwq
          have fz1 := ((M.out.step hwq).k.reg HKA.out hlt).f1
          have hl1 : g1 < wq.heap.size := World.block_lt_of_cell? _ _ c1
          obtain ⟨w7, hw7⟩ : ∃ W, W = wq.setCell ⟨g1, i, none⟩ (.bool false) := ⟨_, rfl⟩
          rw [← hw7] at M7
          have E7 := hid hw7
          clear q1 q2 q4 p1 p2 p3 r1 r2 r3 r4 a1 a2 a3 b1 b2 b3 b4 q1' q2' q4' p1' p2' p3' r1' r2' r3' r4' a1' a2' a3' b1' b2' b3' b4' lk lab lbb la1 la2 la3 lb1 lb2 lb3 lb4 c2 c3 c4 f1 f2 f3 f4 l1 l2 l3 l4 hwq hw7 M
          go_upto_region 8 with fail
          rw [← E7.out]
          clear E7 c1 fz1 hl1
          obtain ⟨q1, q2, q4⟩ := HCK.out w7 M7.out.kx
          obtain ⟨p1, p2, p3⟩ := HCA.out w7 M7.out.bel
          obtain ⟨r1, r2, r3, r4⟩ := HCB.out w7 M7.out.bel
          obtain ⟨a1, a2, a3, b1, b2, b3, b4⟩ := HRWi.out w7 M7.out.bel
          have lk : kb < w7.heap.size := World.block_lt_of_cell? _ _ q1
          have lab : ab < w7.heap.size := World.block_lt_of_cell? _ _ p1
          have lbb : bb < w7.heap.size := World.block_lt_of_cell? _ _ r1
          have la1 : ga1 < w7.heap.size := World.block_lt_of_cell? _ _ a1
          have la2 : ga2 < w7.heap.size := World.block_lt_of_cell? _ _ a2
          have la3 : ga3 < w7.heap.size := World.block_lt_of_cell? _ _ a3
          have lb1 : gb1 < w7.heap.size := World.block_lt_of_cell? _ _ b1
          have lb2 : gb2 < w7.heap.size := World.block_lt_of_cell? _ _ b2
          have lb3 : gb3 < w7.heap.size := World.block_lt_of_cell? _ _ b3
          have lb4 : gb4 < w7.heap.size := World.block_lt_of_cell? _ _ b4
          obtain ⟨c1, c2, c3, c4, f1, f2, f3, f4, l1, l2, l3, l4⟩ := M7.out.k.reg HKA.out hlt
          rw [if_pos rfl] at c1
          rw [HFB.out] at c2
          rw [HFZ.out] at c4
          have q1' := cell_by q1
          have q2' := cell_by q2
          have q4' := cell_by q4
          have p1' := cell_by p1
          have p2' := cell_by p2
          have p3' := cell_by p3
          have r1' := cell_by r1
          have r2' := cell_by r2
          have r3' := cell_by r3
          have r4' := cell_by r4
          have a1' := cell_by a1
          have a2' := cell_by a2
          have a3' := cell_by a3
          have b1' := cell_by b1
          have b2' := cell_by b2
          have b3' := cell_by b3
          have b4' := cell_by b4
          have c1' := cell_by c1
          go_wp2_with fail
          refine wp_region_cutQ 36 (by kernel_rfl) (by kernel_rfl) ?_
          simp only [List.take_succ_cons, List.take_zero]
          repeat (go_big_quiet_step (fail))
          refine wpQuiet_nil ?_
          intro wq hw'
          obtain ⟨⟨_, hwq⟩, hw''⟩ := hw'
          subst hw''
          simp only [List.drop_succ_cons, List.drop_zero]
          have M8 := hid ((M7.out.step hwq).putB HKA.out hlt false)
          replace c2 := cell_keep c2 hwq
          have fz1 := ((M7.out.step hwq).k.reg HKA.out hlt).f2
          have hl1 : g2 < wq.heap.size := World.block_lt_of_cell? _ _ c2
          obtain ⟨w8, hw8⟩ : ∃ W, W = wq.setCell ⟨g2, i, none⟩ (.bool false) := ⟨_, rfl⟩
          rw [← hw8] at M8
          have E8 := hid hw8
          clear q1 q2 q4 p1 p2 p3 r1 r2 r3 r4 a1 a2 a3 b1 b2 b3 b4 c1 q1' q2' q4' p1' p2' p3' r1' r2' r3' r4' a1' a2' a3' b1' b2' b3' b4' c1' lk lab lbb la1 la2 la3 lb1 lb2 lb3 lb4 c3 c4 f1 f2 f3 f4 l1 l2 l3 l4 hwq hw8 M7
          go_upto_region 9 with fail
          rw [← E8.out]
          clear E8 c2 fz1 hl1
          obtain ⟨q1, q2, q4⟩ := HCK.out w8 M8.out.kx
          obtain ⟨p1, p2, p3⟩ := HCA.out w8 M8.out.bel
          obtain ⟨r1, r2, r3, r4⟩ := HCB.out w8 M8.out.bel
          obtain ⟨a1, a2, a3, b1, b2, b3, b4⟩ := HRWi.out w8 M8.out.bel
          have lk : kb < w8.heap.size := World.block_lt_of_cell? _ _ q1
          have lab : ab < w8.heap.size := World.block_lt_of_cell? _ _ p1
          have lbb : bb < w8.heap.size := World.block_lt_of_cell? _ _ r1
          have la1 : ga1 < w8.heap.size := World.block_lt_of_cell? _ _ a1
          have la2 : ga2 < w8.heap.size := World.block_lt_of_cell? _ _ a2
          have la3 : ga3 < w8.heap.size := World.block_lt_of_cell? _ _ a3
          have lb1 : gb1 < w8.heap.size := World.block_lt_of_cell? _ _ b1
          have lb2 : gb2 < w8.heap.size := World.block_lt_of_cell? _ _ b2
          have lb3 : gb3 < w8.heap.size := World.block_lt_of_cell? _ _ b3
          have lb4 : gb4 < w8.heap.size := World.block_lt_of_cell? _ _ b4
          obtain ⟨c1, c2, c3, c4, f1, f2, f3, f4, l1, l2, l3, l4⟩ := M8.out.k.reg HKA.out hlt
          rw [if_pos rfl] at c1
          rw [if_pos rfl] at c2
          rw [HFZ.out] at c4
          have q1' := cell_by q1
          have q2' := cell_by q2
          have q4' := cell_by q4
          have p1' := cell_by p1
          have p2' := cell_by p2
          have p3' := cell_by p3
          have r1' := cell_by r1
          have r2' := cell_by r2
          have r3' := cell_by r3
          have r4' := cell_by r4
          have a1' := cell_by a1
          have a2' := cell_by a2
          have a3' := cell_by a3
          have b1' := cell_by b1
          have b2' := cell_by b2
          have b3' := cell_by b3
          have b4' := cell_by b4
          have c4' := cell_by c4
          go_wp2_with fail
          refine wp_region_quiet_below (by kernel_rfl) (by kernel_rfl) ?_
          repeat (go_big_quiet_step (fail))
          refine wpQuiet_nil ?_
          intro wq hw'
          obtain ⟨⟨_, hwq⟩, hw''⟩ := hw'
          subst hw''
          have M9 := hid (M8.out.step hwq)
          clear q1 q2 q4 p1 p2 p3 r1 r2 r3 r4 a1 a2 a3 b1 b2 b3 b4 c4 q1' q2' q4' p1' p2' p3' r1' r2' r3' r4' a1' a2' a3' b1' b2' b3' b4' c4' lk lab lbb la1 la2 la3 lb1 lb2 lb3 lb4 c1 c2 c3 f1 f2 f3 f4 l1 l2 l3 l4 hwq M8
          obtain ⟨q1, q2, q4⟩ := HCK.out wq M9.out.kx
          obtain ⟨p1, p2, p3⟩ := HCA.out wq M9.out.bel
          obtain ⟨r1, r2, r3, r4⟩ := HCB.out wq M9.out.bel
          obtain ⟨a1, a2, a3, b1, b2, b3, b4⟩ := HRWi.out wq M9.out.bel
          have lk : kb < wq.heap.size := World.block_lt_of_cell? _ _ q1
          have lab : ab < wq.heap.size := World.block_lt_of_cell? _ _ p1
          have lbb : bb < wq.heap.size := World.block_lt_of_cell? _ _ r1
          have la1 : ga1 < wq.heap.size := World.block_lt_of_cell? _ _ a1
          have la2 : ga2 < wq.heap.size := World.block_lt_of_cell? _ _ a2
          have la3 : ga3 < wq.heap.size := World.block_lt_of_cell? _ _ a3
          have lb1 : gb1 < wq.heap.size := World.block_lt_of_cell? _ _ b1
          have lb2 : gb2 < wq.heap.size := World.block_lt_of_cell? _ _ b2
          have lb3 : gb3 < wq.heap.size := World.block_lt_of_cell? _ _ b3
          have lb4 : gb4 < wq.heap.size := World.block_lt_of_cell? _ _ b4
          obtain ⟨c1, c2, c3, c4, f1, f2, f3, f4, l1, l2, l3, l4⟩ := M9.out.k.reg HKA.out hlt
          rw [if_pos rfl] at c1
          rw [if_pos rfl] at c2
          rw [HFZ.out] at c4
          have q1' := cell_by q1
          have q2' := cell_by q2
          have q4' := cell_by q4
          have p1' := cell_by p1
          have p2' := cell_by p2
          have p3' := cell_by p3
          have r1' := cell_by r1
          have r2' := cell_by r2
          have r3' := cell_by r3
          have r4' := cell_by r4
          have a1' := cell_by a1
          have a2' := cell_by a2
          have a3' := cell_by a3
          have b1' := cell_by b1
          have b2' := cell_by b2
          have b3' := cell_by b3
          have b4' := cell_by b4
          go_wp2_with fail
          refine wp_region_cutQ 9 (by kernel_rfl) (by kernel_rfl) ?_
          simp only [List.take_succ_cons, List.take_zero]
          repeat (go_big_quiet_step (fail))
          refine wpQuiet_nil ?_
          intro wp hw'
          obtain ⟨⟨_, hwp⟩, hw''⟩ := hw'
          subst hw''
          simp only [List.drop_succ_cons, List.drop_zero]
          have M10 := hid ((M9.out.step hwp).putZ HKA.out hlt u)
          replace c4 := cell_keep c4 hwp
          have fz1 := ((M9.out.step hwp).k.reg HKA.out hlt).f4
          have hl1 : g4 < wp.heap.size := World.block_lt_of_cell? _ _ c4
          obtain ⟨w10, hw10⟩ : ∃ W, W = wp.setCell ⟨g4, i, none⟩ (.int .i64 u) := ⟨_, rfl⟩
          rw [← hw10] at M10
          have E10 := hid hw10
          clear q1 q2 q4 p1 p2 p3 r1 r2 r3 r4 a1 a2 a3 b1 b2 b3 b4 q1' q2' q4' p1' p2' p3' r1' r2' r3' r4' a1' a2' a3' b1' b2' b3' b4' lk lab lbb la1 la2 la3 lb1 lb2 lb3 lb4 c1 c2 c3 f1 f2 f3 f4 l1 l2 l3 l4 hwp hw10 M9
          go_upto_region 11 with fail
          rw [← E10.out]
          clear E10 c4 fz1 hl1
          obtain ⟨q1, q2, q4⟩ := HCK.out w10 M10.out.kx
          have lk : kb < w10.heap.size := World.block_lt_of_cell? _ _ q1
          obtain ⟨c1, c2, c3, c4, f1, f2, f3, f4, l1, l2, l3, l4⟩ := M10.out.k.reg HKA.out hlt
          rw [if_pos rfl] at c1
          have MX := (M10.out.putZ HKA.out hlt (-1)).congr (A' := fun j => if j = i then (false && y) else fA j) (B' := fun j => if j = i then meetB false y ja jb na nb else fB j) (Z' := fun j => if j = i then meetZ false y z u else fZ j) (fun j => by by_cases e : j = i <;> simp [e, eX]) (fun j => by by_cases e : j = i <;> simp [e, eJ]) (fun j => by by_cases e : j = i <;> simp [e, eZ]) (fun _ => rfl)
          have HE := hid (HNEXT.out _ MX)
          clear MX HNEXT M10 c2 c3 f1 f2 f3
          go_wp2
          go_roundw
          case rel => exact ⟨i + 1, by omega, by go_num, HE⟩
          case measure => simp [intOf]; omega
        · have hui : ¬ u < z := by assumption
          have eX : (false && y) = false := by simp
          have eJ : meetB false y ja jb na nb = false := by simp [meetB]
          have eZ : meetZ false y z u = -1 := by simp [meetZ]
          obtain ⟨q1, q2, q4⟩ := HCK.out wr M.out.kx
          obtain ⟨p1, p2, p3⟩ := HCA.out wr M.out.bel
          obtain ⟨r1, r2, r3, r4⟩ := HCB.out wr M.out.bel
          obtain ⟨a1, a2, a3, b1, b2, b3, b4⟩ := HRWi.out wr M.out.bel
          have lk : kb < wr.heap.size := World.block_lt_of_cell? _ _ q1
          have lab : ab < wr.heap.size := World.block_lt_of_cell? _ _ p1
          have lbb : bb < wr.heap.size := World.block_lt_of_cell? _ _ r1
          have la1 : ga1 < wr.heap.size := World.block_lt_of_cell? _ _ a1
          have la2 : ga2 < wr.heap.size := World.block_lt_of_cell? _ _ a2
          have la3 : ga3 < wr.heap.size := World.block_lt_of_cell? _ _ a3
          have lb1 : gb1 < wr.heap.size := World.block_lt_of_cell? _ _ b1
          have lb2 : gb2 < wr.heap.size := World.block_lt_of_cell? _ _ b2
          have lb3 : gb3 < wr.heap.size := World.block_lt_of_cell? _ _ b3
          have lb4 : gb4 < wr.heap.size := World.block_lt_of_cell? _ _ b4
          obtain ⟨c1, c2, c3, c4, f1, f2, f3, f4, l1, l2, l3, l4⟩ := M.out.k.reg HKA.out hlt
          rw [HFA.out] at c1
          rw [HFB.out] at c2
          rw [HFZ.out] at c4
          have q1' := cell_by q1
          have q2' := cell_by q2
          have q4' := cell_by q4
          have p1' := cell_by p1
          have p2' := cell_by p2
          have p3' := cell_by p3
          have r1' := cell_by r1
          have r2' := cell_by r2
          have r3' := cell_by r3
          have r4' := cell_by r4
          have a1' := cell_by a1
          have a2' := cell_by a2
          have a3' := cell_by a3
          have b1' := cell_by b1
          have b2' := cell_by b2
          have b3' := cell_by b3
          have b4' := cell_by b4
          go_wp2_with fail
          refine wp_region_cutQ 16 (by kernel_rfl) (by kernel_rfl) ?_
          simp only [List.take_succ_cons, List.take_zero]
          repeat (go_big_quiet_step (fail))
          refine wpQuiet_nil ?_
          intro wq hw'
          obtain ⟨⟨_, hwq⟩, hw''⟩ := hw'
          subst hw''
          simp only [List.drop_succ_cons, List.drop_zero]
          have M7 := hid ((M.out.step hwq).putA HKA.out hlt false)
          replace c1 := cell_keep c1 hwq
          have fz1 := ((M.out.step hwq).k.reg HKA.out hlt).f1
          have hl1 : g1 < wq.heap.size := World.block_lt_of_cell? _ _ c1
          obtain ⟨w7, hw7⟩ : ∃ W, W = wq.setCell ⟨g1, i, none⟩ (.bool false) := ⟨_, rfl⟩
          rw [← hw7] at M7
          have E7 := hid hw7
          clear q1 q2 q4 p1 p2 p3 r1 r2 r3 r4 a1 a2 a3 b1 b2 b3 b4 q1' q2' q4' p1' p2' p3' r1' r2' r3' r4' a1' a2' a3' b1' b2' b3' b4' lk lab lbb la1 la2 la3 lb1 lb2 lb3 lb4 c2 c3 c4 f1 f2 f3 f4 l1 l2 l3 l4 hwq hw7 M
          go_upto_region 8 with fail
          rw [← E7.out]
          clear E7 c1 fz1 hl1
          obtain ⟨q1, q2, q4⟩ := HCK.out w7 M7.out.kx
          obtain ⟨p1, p2, p3⟩ := HCA.out w7 M7.out.bel
          obtain ⟨r1, r2, r3, r4⟩ := HCB.out w7 M7.out.bel
          obtain ⟨a1, a2, a3, b1, b2, b3, b4⟩ := HRWi.out w7 M7.out.bel
          have lk : kb < w7.heap.size := World.block_lt_of_cell? _ _ q1
          have lab : ab < w7.heap.size := World.block_lt_of_cell? _ _ p1
          have lbb : bb < w7.heap.size := World.block_lt_of_cell? _ _ r1
          have la1 : ga1 < w7.heap.size := World.block_lt_of_cell? _ _ a1
          have la2 : ga2 < w7.heap.size := World.block_lt_of_cell? _ _ a2
          have la3 : ga3 < w7.heap.size := World.block_lt_of_cell? _ _ a3
          have lb1 : gb1 < w7.heap.size := World.block_lt_of_cell? _ _ b1
          have lb2 : gb2 < w7.heap.size := World.block_lt_of_cell? _ _ b2
          have lb3 : gb3 < w7.heap.size := World.block_lt_of_cell? _ _ b3
          have lb4 : gb4 < w7.heap.size := World.block_lt_of_cell? _ _ b4
          obtain ⟨c1, c2, c3, c4, f1, f2, f3, f4, l1, l2, l3, l4⟩ := M7.out.k.reg HKA.out hlt
          rw [if_pos rfl] at c1
          rw [HFB.out] at c2
          rw [HFZ.out] at c4
          have q1' := cell_by q1
          have q2' := cell_by q2
          have q4' := cell_by q4
          have p1' := cell_by p1
          have p2' := cell_by p2
          have p3' := cell_by p3
          have r1' := cell_by r1
          have r2' := cell_by r2
          have r3' := cell_by r3
          have r4' := cell_by r4
          have a1' := cell_by a1
          have a2' := cell_by a2
          have a3' := cell_by a3
          have b1' := cell_by b1
          have b2' := cell_by b2
          have b3' := cell_by b3
          have b4' := cell_by b4
          have c1' := cell_by c1
          go_wp2_with fail
          refine wp_region_cutQ 36 (by kernel_rfl) (by kernel_rfl) ?_
          simp only [List.take_succ_cons, List.take_zero]
          repeat (go_big_quiet_step (fail))
          refine wpQuiet_nil ?_
          intro wq hw'
          obtain ⟨⟨_, hwq⟩, hw''⟩ := hw'
          subst hw''
          simp only [List.drop_succ_cons, List.drop_zero]
          have M8 := hid ((M7.out.step hwq).putB HKA.out hlt false)
          replace c2 := cell_keep c2 hwq
          have fz1 := ((M7.out.step hwq).k.reg HKA.out hlt).f2
          have hl1 : g2 < wq.heap.size := World.block_lt_of_cell? _ _ c2
          obtain ⟨w8, hw8⟩ : ∃ W, W = wq.setCell ⟨g2, i, none⟩ (.bool false) := ⟨_, rfl⟩
          rw [← hw8] at M8
          have E8 := hid hw8
          clear q1 q2 q4 p1 p2 p3 r1 r2 r3 r4 a1 a2 a3 b1 b2 b3 b4 c1 q1' q2' q4' p1' p2' p3' r1' r2' r3' r4' a1' a2' a3' b1' b2' b3' b4' c1' lk lab lbb la1 la2 la3 lb1 lb2 lb3 lb4 c3 c4 f1 f2 f3 f4 l1 l2 l3 l4 hwq hw8 M7
          go_upto_region 9 with fail
          rw [← E8.out]
          clear E8 c2 fz1 hl1
          obtain ⟨q1, q2, q4⟩ := HCK.out w8 M8.out.kx
          obtain ⟨p1, p2, p3⟩ := HCA.out w8 M8.out.bel
          obtain ⟨r1, r2, r3, r4⟩ := HCB.out w8 M8.out.bel
          obtain ⟨a1, a2, a3, b1, b2, b3, b4⟩ := HRWi.out w8 M8.out.bel
          have lk : kb < w8.heap.size := World.block_lt_of_cell? _ _ q1
          have lab : ab < w8.heap.size := World.block_lt_of_cell? _ _ p1
          have lbb : bb < w8.heap.size := World.block_lt_of_cell? _ _ r1
          have la1 : ga1 < w8.heap.size := World.block_lt_of_cell? _ _ a1
          have la2 : ga2 < w8.heap.size := World.block_lt_of_cell? _ _ a2
          have la3 : ga3 < w8.heap.size := World.block_lt_of_cell? _ _ a3
          have lb1 : gb1 < w8.heap.size := World.block_lt_of_cell? _ _ b1
          have lb2 : gb2 < w8.heap.size := World.block_lt_of_cell? _ _ b2
          have lb3 : gb3 < w8.heap.size := World.block_lt_of_cell? _ _ b3
          have lb4 : gb4 < w8.heap.size := World.block_lt_of_cell? _ _ b4
          obtain ⟨c1, c2, c3, c4, f1, f2, f3, f4, l1, l2, l3, l4⟩ := M8.out.k.reg HKA.out hlt
          rw [if_pos rfl] at c1
          rw [if_pos rfl] at c2
          rw [HFZ.out] at c4
          have q1' := cell_by q1
          have q2' := cell_by q2
          have q4' := cell_by q4
          have p1' := cell_by p1
          have p2' := cell_by p2
          have p3' := cell_by p3
          have r1' := cell_by r1
          have r2' := cell_by r2
          have r3' := cell_by r3
          have r4' := cell_by r4
          have a1' := cell_by a1
          have a2' := cell_by a2
          have a3' := cell_by a3
          have b1' := cell_by b1
          have b2' := cell_by b2
          have b3' := cell_by b3
          have b4' := cell_by b4
          have c4' := cell_by c4
          go_wp2_with fail
          refine wp_region_quiet_below (by kernel_rfl) (by kernel_rfl) ?_
          repeat (go_big_quiet_step (fail))
          refine wpQuiet_nil ?_
          intro wq hw'
          obtain ⟨⟨_, hwq⟩, hw''⟩ := hw'
          subst hw''
          have M9 := hid (M8.out.step hwq)
          clear q1 q2 q4 p1 p2 p3 r1 r2 r3 r4 a1 a2 a3 b1 b2 b3 b4 c4 q1' q2' q4' p1' p2' p3' r1' r2' r3' r4' a1' a2' a3' b1' b2' b3' b4' c4' lk lab lbb la1 la2 la3 lb1 lb2 lb3 lb4 c1 c2 c3 f1 f2 f3 f4 l1 l2 l3 l4 hwq M8
          obtain ⟨q1, q2, q4⟩ := HCK.out wq M9.out.kx
          have lk : kb < wq.heap.size := World.block_lt_of_cell? _ _ q1
          obtain ⟨c1, c2, c3, c4, f1, f2, f3, f4, l1, l2, l3, l4⟩ := M9.out.k.reg HKA.out hlt
          rw [if_pos rfl] at c1
          have MX := (M9.out.putZ HKA.out hlt (-1)).congr (A' := fun j => if j = i then (false && y) else fA j) (B' := fun j => if j = i then meetB false y ja jb na nb else fB j) (Z' := fun j => if j = i then meetZ false y z u else fZ j) (fun j => by by_cases e : j = i <;> simp [e, eX]) (fun j => by by_cases e : j = i <;> simp [e, eJ]) (fun j => by by_cases e : j = i <;> simp [e, eZ]) (fun _ => rfl)
          have HE := hid (HNEXT.out _ MX)
          clear MX HNEXT M9 c2 c3 f1 f2 f3
          go_wp2
          go_roundw
          case rel => exact ⟨i + 1, by omega, by go_num, HE⟩
          case measure => simp [intOf]; omega
      | true =>
        cases y with
        | false =>
          by_cases hz : u < z
          · have hui : u < z := by assumption
            have eX : (true && false) = false := by simp
            have eJ : meetB true false ja jb na nb = false := by simp [meetB]
            have eZ : meetZ true false z u = -1 := by simp [meetZ]
            obtain ⟨q1, q2, q4⟩ := HCK.out wr M.out.kx
            obtain ⟨p1, p2, p3⟩ := HCA.out wr M.out.bel
            obtain ⟨r1, r2, r3, r4⟩ := HCB.out wr M.out.bel
            obtain ⟨a1, a2, a3, b1, b2, b3, b4⟩ := HRWi.out wr M.out.bel
            have lk : kb < wr.heap.size := World.block_lt_of_cell? _ _ q1
            have lab : ab < wr.heap.size := World.block_lt_of_cell? _ _ p1
            have lbb : bb < wr.heap.size := World.block_lt_of_cell? _ _ r1
            have la1 : ga1 < wr.heap.size := World.block_lt_of_cell? _ _ a1
            have la2 : ga2 < wr.heap.size := World.block_lt_of_cell? _ _ a2
            have la3 : ga3 < wr.heap.size := World.block_lt_of_cell? _ _ a3
            have lb1 : gb1 < wr.heap.size := World.block_lt_of_cell? _ _ b1
            have lb2 : gb2 < wr.heap.size := World.block_lt_of_cell? _ _ b2
            have lb3 : gb3 < wr.heap.size := World.block_lt_of_cell? _ _ b3
            have lb4 : gb4 < wr.heap.size := World.block_lt_of_cell? _ _ b4
            obtain ⟨c1, c2, c3, c4, f1, f2, f3, f4, l1, l2, l3, l4⟩ := M.out.k.reg HKA.out hlt
            rw [HFA.out] at c1
            rw [HFB.out] at c2
            rw [HFZ.out] at c4
            have q1' := cell_by q1
            have q2' := cell_by q2
            have q4' := cell_by q4
            have p1' := cell_by p1
            have p2' := cell_by p2
            have p3' := cell_by p3
            have r1' := cell_by r1
            have r2' := cell_by r2
            have r3' := cell_by r3
            have r4' := cell_by r4
            have a1' := cell_by a1
            have a2' := cell_by a2
            have a3' := cell_by a3
            have b1' := cell_by b1
            have b2' := cell_by b2
            have b3' := cell_by b3
            have b4' := cell_by b4
            go_wp2_with fail
            refine wp_region_cutQ 16 (by kernel_rfl) (by kernel_rfl) ?_
            simp only [List.take_succ_cons, List.take_zero]
            repeat (go_big_quiet_step (fail))
            refine wpQuiet_nil ?_
            intro wq hw'
            obtain ⟨⟨_, hwq⟩, hw''⟩ := hw'
            subst hw''
            simp only [List.drop_succ_cons, List.drop_zero]
            have M7 := hid ((M.out.step hwq).putA HKA.out hlt false)
            replace c1 := cell_keep c1 hwq
            have fz1 := ((M.out.step hwq).k.reg HKA.out hlt).f1
            have hl1 : g1 < wq.heap.size := World.block_lt_of_cell? _ _ c1
            obtain ⟨w7, hw7⟩ : ∃ W, W = wq.setCell ⟨g1, i, none⟩ (.bool false) := ⟨_, rfl⟩
            rw [← hw7] at M7
            have E7 := hid hw7
            clear q1 q2 q4 p1 p2 p3 r1 r2 r3 r4 a1 a2 a3 b1 b2 b3 b4 q1' q2' q4' p1' p2' p3' r1' r2' r3' r4' a1' a2' a3' b1' b2' b3' b4' lk lab lbb la1 la2 la3 lb1 lb2 lb3 lb4 c2 c3 c4 f1 f2 f3 f4 l1 l2 l3 l4 hwq hw7 M
            go_upto_region 8 with fail
            rw [← E7.out]
            clear E7 c1 fz1 hl1
            obtain ⟨q1, q2, q4⟩ := HCK.out w7 M7.out.kx
            obtain ⟨p1, p2, p3⟩ := HCA.out w7 M7.out.bel
            obtain ⟨r1, r2, r3, r4⟩ := HCB.out w7 M7.out.bel
            obtain ⟨a1, a2, a3, b1, b2, b3, b4⟩ := HRWi.out w7 M7.out.bel
            have lk : kb < w7.heap.size := World.block_lt_of_cell? _ _ q1
            have lab : ab < w7.heap.size := World.block_lt_of_cell? _ _ p1
            have lbb : bb < w7.heap.size := World.block_lt_of_cell? _ _ r1
            have la1 : ga1 < w7.heap.size := World.block_lt_of_cell? _ _ a1
            have la2 : ga2 < w7.heap.size := World.block_lt_of_cell? _ _ a2
            have la3 : ga3 < w7.heap.size := World.block_lt_of_cell? _ _ a3
            have lb1 : gb1 < w7.heap.size := World.block_lt_of_cell? _ _ b1
            have lb2 : gb2 < w7.heap.size := World.block_lt_of_cell? _ _ b2
            have lb3 : gb3 < w7.heap.size := World.block_lt_of_cell? _ _ b3
            have lb4 : gb4 < w7.heap.size := World.block_lt_of_cell? _ _ b4
            obtain ⟨c1, c2, c3, c4, f1, f2, f3, f4, l1, l2, l3, l4⟩ := M7.out.k.reg HKA.out hlt
            rw [if_pos rfl] at c1
            rw [HFB.out] at c2
            rw [HFZ.out] at c4
            have q1' := cell_by q1
            have q2' := cell_by q2
            have q4' := cell_by q4
            have p1' := cell_by p1
            have p2' := cell_by p2
            have p3' := cell_by p3
            have r1' := cell_by r1
            have r2' := cell_by r2
            have r3' := cell_by r3
            have r4' := cell_by r4
            have a1' := cell_by a1
            have a2' := cell_by a2
            have a3' := cell_by a3
            have b1' := cell_by b1
            have b2' := cell_by b2
            have b3' := cell_by b3
            have b4' := cell_by b4
            have c1' := cell_by c1
            go_wp2_with fail
            refine wp_region_cutQ 36 (by kernel_rfl) (by kernel_rfl) ?_
            simp only [List.take_succ_cons, List.take_zero]
            repeat (go_big_quiet_step (fail))
            refine wpQuiet_nil ?_
            intro wq hw'
            obtain ⟨⟨_, hwq⟩, hw''⟩ := hw'
            subst hw''
            simp only [List.drop_succ_cons, List.drop_zero]
            have M8 := hid ((M7.out.step hwq).putB HKA.out hlt false)
            replace c2 := cell_keep c2 hwq
            have fz1 := ((M7.out.step hwq).k.reg HKA.out hlt).f2
            have hl1 : g2 < wq.heap.size := World.block_lt_of_cell? _ _ c2
            obtain ⟨w8, hw8⟩ : ∃ W, W = wq.setCell ⟨g2, i, none⟩ (.bool false) := ⟨_, rfl⟩
            rw [← hw8] at M8
            have E8 := hid hw8
            clear q1 q2 q4 p1 p2 p3 r1 r2 r3 r4 a1 a2 a3 b1 b2 b3 b4 c1 q1' q2' q4' p1' p2' p3' r1' r2' r3' r4' a1' a2' a3' b1' b2' b3' b4' c1' lk lab lbb la1 la2 la3 lb1 lb2 lb3 lb4 c3 c4 f1 f2 f3 f4 l1 l2 l3 l4 hwq hw8 M7
            go_upto_region 9 with fail
            rw [← E8.out]
            clear E8 c2 fz1 hl1
            obtain ⟨q1, q2, q4⟩ := HCK.out w8 M8.out.kx
            obtain ⟨p1, p2, p3⟩ := HCA.out w8 M8.out.bel
            obtain ⟨r1, r2, r3, r4⟩ := HCB.out w8 M8.out.bel
            obtain ⟨a1, a2, a3, b1, b2, b3, b4⟩ := HRWi.out w8 M8.out.bel
            have lk : kb < w8.heap.size := World.block_lt_of_cell? _ _ q1
            have lab : ab < w8.heap.size := World.block_lt_of_cell? _ _ p1
            have lbb : bb < w8.heap.size := World.block_lt_of_cell? _ _ r1
            have la1 : ga1 < w8.heap.size := World.block_lt_of_cell? _ _ a1
            have la2 : ga2 < w8.heap.size := World.block_lt_of_cell? _ _ a2
            have la3 : ga3 < w8.heap.size := World.block_lt_of_cell? _ _ a3
            have lb1 : gb1 < w8.heap.size := World.block_lt_of_cell? _ _ b1
            have lb2 : gb2 < w8.heap.size := World.block_lt_of_cell? _ _ b2
            have lb3 : gb3 < w8.heap.size := World.block_lt_of_cell? _ _ b3
            have lb4 : gb4 < w8.heap.size := World.block_lt_of_cell? _ _ b4
            obtain ⟨c1, c2, c3, c4, f1, f2, f3, f4, l1, l2, l3, l4⟩ := M8.out.k.reg HKA.out hlt
            rw [if_pos rfl] at c1
            rw [if_pos rfl] at c2
            rw [HFZ.out] at c4
            have q1' := cell_by q1
            have q2' := cell_by q2
            have q4' := cell_by q4
            have p1' := cell_by p1
            have p2' := cell_by p2
            have p3' := cell_by p3
            have r1' := cell_by r1
            have r2' := cell_by r2
            have r3' := cell_by r3
            have r4' := cell_by r4
            have a1' := cell_by a1
            have a2' := cell_by a2
            have a3' := cell_by a3
            have b1' := cell_by b1
            have b2' := cell_by b2
            have b3' := cell_by b3
            have b4' := cell_by b4
            have c4' := cell_by c4
            go_wp2_with fail
            refine wp_region_quiet_below (by kernel_rfl) (by kernel_rfl) ?_
            repeat (go_big_quiet_step (fail))
            refine wpQuiet_nil ?_
            intro wq hw'
            obtain ⟨⟨_, hwq⟩, hw''⟩ := hw'
            subst hw''
            have M9 := hid (M8.out.step hwq)
            clear q1 q2 q4 p1 p2 p3 r1 r2 r3 r4 a1 a2 a3 b1 b2 b3 b4 c4 q1' q2' q4' p1' p2' p3' r1' r2' r3' r4' a1' a2' a3' b1' b2' b3' b4' c4' lk lab lbb la1 la2 la3 lb1 lb2 lb3 lb4 c1 c2 c3 f1 f2 f3 f4 l1 l2 l3 l4 hwq M8
            obtain ⟨q1, q2, q4⟩ := HCK.out wq M9.out.kx
            obtain ⟨p1, p2, p3⟩ := HCA.out wq M9.out.bel
            obtain ⟨r1, r2, r3, r4⟩ := HCB.out wq M9.out.bel
            obtain ⟨a1, a2, a3, b1, b2, b3, b4⟩ := HRWi.out wq M9.out.bel
            have lk : kb < wq.heap.size := World.block_lt_of_cell? _ _ q1
            have lab : ab < wq.heap.size := World.block_lt_of_cell? _ _ p1
            have lbb : bb < wq.heap.size := World.block_lt_of_cell? _ _ r1
            have la1 : ga1 < wq.heap.size := World.block_lt_of_cell? _ _ a1
            have la2 : ga2 < wq.heap.size := World.block_lt_of_cell? _ _ a2
            have la3 : ga3 < wq.heap.size := World.block_lt_of_cell? _ _ a3
            have lb1 : gb1 < wq.heap.size := World.block_lt_of_cell? _ _ b1
            have lb2 : gb2 < wq.heap.size := World.block_lt_of_cell? _ _ b2
            have lb3 : gb3 < wq.heap.size := World.block_lt_of_cell? _ _ b3
            have lb4 : gb4 < wq.heap.size := World.block_lt_of_cell? _ _ b4
            obtain ⟨c1, c2, c3, c4, f1, f2, f3, f4, l1, l2, l3, l4⟩ := M9.out.k.reg HKA.out hlt
            rw [if_pos rfl] at c1
            rw [if_pos rfl] at c2
            rw [HFZ.out] at c4
            have q1' := cell_by q1
            have q2' := cell_by q2
            have q4' := cell_by q4
            have p1' := cell_by p1
            have p2' := cell_by p2
            have p3' := cell_by p3
            have r1' := cell_by r1
            have r2' := cell_by r2
            have r3' := cell_by r3
            have r4' := cell_by r4
            have a1' := cell_by a1
            have a2' := cell_by a2
            have a3' := cell_by a3
            have b1' := cell_by b1
            have b2' := cell_by b2
            have b3' := cell_by b3
            have b4' := cell_by b4
            go_wp2_with fail
            refine wp_region_cutQ 9 (by kernel_rfl) (by kernel_rfl) ?_
            simp only [List.take_succ_cons, List.take_zero]
            repeat (go_big_quiet_step (fail))
            refine wpQuiet_nil ?_
            intro wp hw'
            obtain ⟨⟨_, hwp⟩, hw''⟩ := hw'
            subst hw''
            simp only [List.drop_succ_cons, List.drop_zero]
            have M10 := hid ((M9.out.step hwp).putZ HKA.out hlt u)
            replace c4 := cell_keep c4 hwp
            have fz1 := ((M9.out.step hwp).k.reg HKA.out hlt).f4
            have hl1 : g4 < wp.heap.size := World.block_lt_of_cell? _ _ c4
            obtain ⟨w10, hw10⟩ : ∃ W, W = wp.setCell ⟨g4, i, none⟩ (.int .i64 u) := ⟨_, rfl⟩
            rw [← hw10] at M10
            have E10 := hid hw10
            clear q1 q2 q4 p1 p2 p3 r1 r2 r3 r4 a1 a2 a3 b1 b2 b3 b4 q1' q2' q4' p1' p2' p3' r1' r2' r3' r4' a1' a2' a3' b1' b2' b3' b4' lk lab lbb la1 la2 la3 lb1 lb2 lb3 lb4 c1 c2 c3 f1 f2 f3 f4 l1 l2 l3 l4 hwp hw10 M9
            go_upto_region 11 with fail
            rw [← E10.out]
            clear E10 c4 fz1 hl1
            obtain ⟨q1, q2, q4⟩ := HCK.out w10 M10.out.kx
            have lk : kb < w10.heap.size := World.block_lt_of_cell? _ _ q1
            obtain ⟨c1, c2, c3, c4, f1, f2, f3, f4, l1, l2, l3, l4⟩ := M10.out.k.reg HKA.out hlt
            rw [if_pos rfl] at c1
            have MX := (M10.out.putZ HKA.out hlt (-1)).congr (A' := fun j => if j = i then (true && false) else fA j) (B' := fun j => if j = i then meetB true false ja jb na nb else fB j) (Z' := fun j => if j = i then meetZ true false z u else fZ j) (fun j => by by_cases e : j = i <;> simp [e, eX]) (fun j => by by_cases e : j = i <;> simp [e, eJ]) (fun j => by by_cases e : j = i <;> simp [e, eZ]) (fun _ => rfl)
            have HE := hid (HNEXT.out _ MX)
            clear MX HNEXT M10 c2 c3 f1 f2 f3
            go_wp2
            go_roundw
            case rel => exact ⟨i + 1, by omega, by go_num, HE⟩
            case measure => simp [intOf]; omega
          · have hui : ¬ u < z := by assumption
            have eX : (true && false) = false := by simp
            have eJ : meetB true false ja jb na nb = false := by simp [meetB]
            have eZ : meetZ true false z u = -1 := by simp [meetZ]
            obtain ⟨q1, q2, q4⟩ := HCK.out wr M.out.kx
            obtain ⟨p1, p2, p3⟩ := HCA.out wr M.out.bel
            obtain ⟨r1, r2, r3, r4⟩ := HCB.out wr M.out.bel
            obtain ⟨a1, a2, a3, b1, b2, b3, b4⟩ := HRWi.out wr M.out.bel
            have lk : kb < wr.heap.size := World.block_lt_of_cell? _ _ q1
            have lab : ab < wr.heap.size := World.block_lt_of_cell? _ _ p1
            have lbb : bb < wr.heap.size := World.block_lt_of_cell? _ _ r1
            have la1 : ga1 < wr.heap.size := World.block_lt_of_cell? _ _ a1
            have la2 : ga2 < wr.heap.size := World.block_lt_of_cell? _ _ a2
            have la3 : ga3 < wr.heap.size := World.block_lt_of_cell? _ _ a3
            have lb1 : gb1 < wr.heap.size := World.block_lt_of_cell? _ _ b1
            have lb2 : gb2 < wr.heap.size := World.block_lt_of_cell? _ _ b2
            have lb3 : gb3 < wr.heap.size := World.block_lt_of_cell? _ _ b3
            have lb4 : gb4 < wr.heap.size := World.block_lt_of_cell? _ _ b4
            obtain ⟨c1, c2, c3, c4, f1, f2, f3, f4, l1, l2, l3, l4⟩ := M.out.k.reg HKA.out hlt
            rw [HFA.out] at c1
            rw [HFB.out] at c2
            rw [HFZ.out] at c4
            have q1' := cell_by q1
            have q2' := cell_by q2
            have q4' := cell_by q4
            have p1' := cell_by p1
            have p2' := cell_by p2
            have p3' := cell_by p3
            have r1' := cell_by r1
            have r2' := cell_by r2
            have r3' := cell_by r3
            have r4' := cell_by r4
            have a1' := cell_by a1
            have a2' := cell_by a2
            have a3' := cell_by a3
            have b1' := cell_by b1
            have b2' := cell_by b2
            have b3' := cell_by b3
            have b4' := cell_by b4
            go_wp2_with fail
            refine wp_region_cutQ 16 (by kernel_rfl) (by kernel_rfl) ?_
            simp only [List.take_succ_cons, List.take_zero]
            repeat (go_big_quiet_step (fail))
            refine wpQuiet_nil ?_
            intro wq hw'
            obtain ⟨⟨_, hwq⟩, hw''⟩ := hw'
            subst hw''
            simp only [List.drop_succ_cons, List.drop_zero]
            have M7 := hid ((M.out.step hwq).putA HKA.out hlt false)
            replace c1 := cell_keep c1 hwq
            have fz1 := ((M.out.step hwq).k.reg HKA.out hlt).f1
            have hl1 : g1 < wq.heap.size := World.block_lt_of_cell? _ _ c1
            obtain ⟨w7, hw7⟩ : ∃ W, W = wq.setCell ⟨g1, i, none⟩ (.bool false) := ⟨_, rfl⟩
            rw [← hw7] at M7
            have E7 := hid hw7
            clear q1 q2 q4 p1 p2 p3 r1 r2 r3 r4 a1 a2 a3 b1 b2 b3 b4 q1' q2' q4' p1' p2' p3' r1' r2' r3' r4' a1' a2' a3' b1' b2' b3' b4' lk lab lbb la1 la2 la3 lb1 lb2 lb3 lb4 c2 c3 c4 f1 f2 f3 f4 l1 l2 l3 l4 hwq hw7 M
            go_upto_region 8 with fail
            rw [← E7.out]
            clear E7 c1 fz1 hl1
            obtain ⟨q1, q2, q4⟩ := HCK.out w7 M7.out.kx
            obtain ⟨p1, p2, p3⟩ := HCA.out w7 M7.out.bel
            obtain ⟨r1, r2, r3, r4⟩ := HCB.out w7 M7.out.bel
            obtain ⟨a1, a2, a3, b1, b2, b3, b4⟩ := HRWi.out w7 M7.out.bel
            have lk : kb < w7.heap.size := World.block_lt_of_cell? _ _ q1
            have lab : ab < w7.heap.size := World.block_lt_of_cell? _ _ p1
            have lbb : bb < w7.heap.size := World.block_lt_of_cell? _ _ r1
            have la1 : ga1 < w7.heap.size := World.block_lt_of_cell? _ _ a1
            have la2 : ga2 < w7.heap.size := World.block_lt_of_cell? _ _ a2
            have la3 : ga3 < w7.heap.size := World.block_lt_of_cell? _ _ a3
            have lb1 : gb1 < w7.heap.size := World.block_lt_of_cell? _ _ b1
            have lb2 : gb2 < w7.heap.size := World.block_lt_of_cell? _ _ b2
            have lb3 : gb3 < w7.heap.size := World.block_lt_of_cell? _ _ b3
            have lb4 : gb4 < w7.heap.size := World.block_lt_of_cell? _ _ b4
            obtain ⟨c1, c2, c3, c4, f1, f2, f3, f4, l1, l2, l3, l4⟩ := M7.out.k.reg HKA.out hlt
            rw [if_pos rfl] at c1
            rw [HFB.out] at c2
            rw [HFZ.out] at c4
            have q1' := cell_by q1
            have q2' := cell_by q2
            have q4' := cell_by q4
            have p1' := cell_by p1
            have p2' := cell_by p2
            have p3' := cell_by p3
            have r1' := cell_by r1
            have r2' := cell_by r2
            have r3' := cell_by r3
            have r4' := cell_by r4
            have a1' := cell_by a1
            have a2' := cell_by a2
            have a3' := cell_by a3
            have b1' := cell_by b1
            have b2' := cell_by b2
            have b3' := cell_by b3
            have b4' := cell_by b4
            have c1' := cell_by c1
            go_wp2_with fail
            refine wp_region_cutQ 36 (by kernel_rfl) (by kernel_rfl) ?_
            simp only [List.take_succ_cons, List.take_zero]
            repeat (go_big_quiet_step (fail))
            refine wpQuiet_nil ?_
            intro wq hw'
            obtain ⟨⟨_, hwq⟩, hw''⟩ := hw'
            subst hw''
            simp only [List.drop_succ_cons, List.drop_zero]
            have M8 := hid ((M7.out.step hwq).putB HKA.out hlt false)
            replace c2 := cell_keep c2 hwq
            have fz1 := ((M7.out.step hwq).k.reg HKA.out hlt).f2
            have hl1 : g2 < wq.heap.size := World.block_lt_of_cell? _ _ c2
            obtain ⟨w8, hw8⟩ : ∃ W, W = wq.setCell ⟨g2, i, none⟩ (.bool false) := ⟨_, rfl⟩
            rw [← hw8] at M8
            have E8 := hid hw8
            clear q1 q2 q4 p1 p2 p3 r1 r2 r3 r4 a1 a2 a3 b1 b2 b3 b4 c1 q1' q2' q4' p1' p2' p3' r1' r2' r3' r4' a1' a2' a3' b1' b2' b3' b4' c1' lk lab lbb la1 la2 la3 lb1 lb2 lb3 lb4 c3 c4 f1 f2 f3 f4 l1 l2 l3 l4 hwq hw8 M7
            go_upto_region 9 with fail
            rw [← E8.out]
            clear E8 c2 fz1 hl1
            obtain ⟨q1, q2, q4⟩ := HCK.out w8 M8.out.kx
            obtain ⟨p1, p2, p3⟩ := HCA.out w8 M8.out.bel
            obtain ⟨r1, r2, r3, r4⟩ := HCB.out w8 M8.out.bel
            obtain ⟨a1, a2, a3, b1, b2, b3, b4⟩ := HRWi.out w8 M8.out.bel
            have lk : kb < w8.heap.size := World.block_lt_of_cell? _ _ q1
            have lab : ab < w8.heap.size := World.block_lt_of_cell? _ _ p1
            have lbb : bb < w8.heap.size := World.block_lt_of_cell? _ _ r1
            have la1 : ga1 < w8.heap.size := World.block_lt_of_cell? _ _ a1
            have la2 : ga2 < w8.heap.size := World.block_lt_of_cell? _ _ a2
            have la3 : ga3 < w8.heap.size := World.block_lt_of_cell? _ _ a3
            have lb1 : gb1 < w8.heap.size := World.block_lt_of_cell? _ _ b1
            have lb2 : gb2 < w8.heap.size := World.block_lt_of_cell? _ _ b2
            have lb3 : gb3 < w8.heap.size := World.block_lt_of_cell? _ _ b3
            have lb4 : gb4 < w8.heap.size := World.block_lt_of_cell? _ _ b4
            obtain ⟨c1, c2, c3, c4, f1, f2, f3, f4, l1, l2, l3, l4⟩ := M8.out.k.reg HKA.out hlt
            rw [if_pos rfl] at c1
            rw [if_pos rfl] at c2
            rw [HFZ.out] at c4
            have q1' := cell_by q1
            have q2' := cell_by q2
            have q4' := cell_by q4
            have p1' := cell_by p1
            have p2' := cell_by p2
            have p3' := cell_by p3
            have r1' := cell_by r1
            have r2' := cell_by r2
            have r3' := cell_by r3
            have r4' := cell_by r4
            have a1' := cell_by a1
            have a2' := cell_by a2
            have a3' := cell_by a3
            have b1' := cell_by b1
            have b2' := cell_by b2
            have b3' := cell_by b3
            have b4' := cell_by b4
            have c4' := cell_by c4
            go_wp2_with fail
            refine wp_region_quiet_below (by kernel_rfl) (by kernel_rfl) ?_
            repeat (go_big_quiet_step (fail))
            refine wpQuiet_nil ?_
            intro wq hw'
            obtain ⟨⟨_, hwq⟩, hw''⟩ := hw'
            subst hw''
            have M9 := hid (M8.out.step hwq)
            clear q1 q2 q4 p1 p2 p3 r1 r2 r3 r4 a1 a2 a3 b1 b2 b3 b4 c4 q1' q2' q4' p1' p2' p3' r1' r2' r3' r4' a1' a2' a3' b1' b2' b3' b4' c4' lk lab lbb la1 la2 la3 lb1 lb2 lb3 lb4 c1 c2 c3 f1 f2 f3 f4 l1 l2 l3 l4 hwq M8
            obtain ⟨q1, q2, q4⟩ := HCK.out wq M9.out.kx
            have lk : kb < wq.heap.size := World.block_lt_of_cell? _ _ q1
            obtain ⟨c1, c2, c3, c4, f1, f2, f3, f4, l1, l2, l3, l4⟩ := M9.out.k.reg HKA.out hlt
            rw [if_pos rfl] at c1
            have MX := (M9.out.putZ HKA.out hlt (-1)).congr (A' := fun j => if j = i then (true && false) else fA j) (B' := fun j => if j = i then meetB true false ja jb na nb else fB j) (Z' := fun j => if j = i then meetZ true false z u else fZ j) (fun j => by by_cases e : j = i <;> simp [e, eX]) (fun j => by by_cases e : j = i <;> simp [e, eJ]) (fun j => by by_cases e : j = i <;> simp [e, eZ]) (fun _ => rfl)
            have HE := hid (HNEXT.out _ MX)
            clear MX HNEXT M9 c2 c3 f1 f2 f3
            go_wp2
            go_roundw
            case rel => exact ⟨i + 1, by omega, by go_num, HE⟩
            case measure => simp [intOf]; omega
        | true =>
          cases ja with
          | false =>
            by_cases hz : u < z
            · have hui : u < z := by assumption
              have eX : (true && true) = true := by simp
              have eJ : meetB true true false jb na nb = false := by simp [meetB]
              have eZ : meetZ true true z u = u := by simp [meetZ, hui]
              obtain ⟨q1, q2, q4⟩ := HCK.out wr M.out.kx
              obtain ⟨p1, p2, p3⟩ := HCA.out wr M.out.bel
              obtain ⟨r1, r2, r3, r4⟩ := HCB.out wr M.out.bel
              obtain ⟨a1, a2, a3, b1, b2, b3, b4⟩ := HRWi.out wr M.out.bel
              have lk : kb < wr.heap.size := World.block_lt_of_cell? _ _ q1
              have lab : ab < wr.heap.size := World.block_lt_of_cell? _ _ p1
              have lbb : bb < wr.heap.size := World.block_lt_of_cell? _ _ r1
              have la1 : ga1 < wr.heap.size := World.block_lt_of_cell? _ _ a1
              have la2 : ga2 < wr.heap.size := World.block_lt_of_cell? _ _ a2
              have la3 : ga3 < wr.heap.size := World.block_lt_of_cell? _ _ a3
              have lb1 : gb1 < wr.heap.size := World.block_lt_of_cell? _ _ b1
              have lb2 : gb2 < wr.heap.size := World.block_lt_of_cell? _ _ b2
              have lb3 : gb3 < wr.heap.size := World.block_lt_of_cell? _ _ b3
              have lb4 : gb4 < wr.heap.size := World.block_lt_of_cell? _ _ b4
              obtain ⟨c1, c2, c3, c4, f1, f2, f3, f4, l1, l2, l3, l4⟩ := M.out.k.reg HKA.out hlt
              rw [HFA.out] at c1
              rw [HFB.out] at c2
              rw [HFZ.out] at c4
              have q1' := cell_by q1
              have q2' := cell_by q2
              have q4' := cell_by q4
              have p1' := cell_by p1
              have p2' := cell_by p2
              have p3' := cell_by p3
              have r1' := cell_by r1
              have r2' := cell_by r2
              have r3' := cell_by r3
              have r4' := cell_by r4
              have a1' := cell_by a1
              have a2' := cell_by a2
              have a3' := cell_by a3
              have b1' := cell_by b1
              have b2' := cell_by b2
              have b3' := cell_by b3
              have b4' := cell_by b4
              go_wp2_with fail
              refine wp_region_cutQ 16 (by kernel_rfl) (by kernel_rfl) ?_
              simp only [List.take_succ_cons, List.take_zero]
              repeat (go_big_quiet_step (fail))
              refine wpQuiet_nil ?_
              intro wq hw'
              obtain ⟨⟨_, hwq⟩, hw''⟩ := hw'
              subst hw''
              simp only [List.drop_succ_cons, List.drop_zero]
              have M7 := hid ((M.out.step hwq).putA HKA.out hlt true)
              replace c1 := cell_keep c1 hwq
              have fz1 := ((M.out.step hwq).k.reg HKA.out hlt).f1
              have hl1 : g1 < wq.heap.size := World.block_lt_of_cell? _ _ c1
              obtain ⟨w7, hw7⟩ : ∃ W, W = wq.setCell ⟨g1, i, none⟩ (.bool true) := ⟨_, rfl⟩
              rw [← hw7] at M7
              have E7 := hid hw7
              clear q1 q2 q4 p1 p2 p3 r1 r2 r3 r4 a1 a2 a3 b1 b2 b3 b4 q1' q2' q4' p1' p2' p3' r1' r2' r3' r4' a1' a2' a3' b1' b2' b3' b4' lk lab lbb la1 la2 la3 lb1 lb2 lb3 lb4 c2 c3 c4 f1 f2 f3 f4 l1 l2 l3 l4 hwq hw7 M
              go_upto_region 8 with fail
              rw [← E7.out]
              clear E7 c1 fz1 hl1
              obtain ⟨q1, q2, q4⟩ := HCK.out w7 M7.out.kx
              obtain ⟨p1, p2, p3⟩ := HCA.out w7 M7.out.bel
              obtain ⟨r1, r2, r3, r4⟩ := HCB.out w7 M7.out.bel
              obtain ⟨a1, a2, a3, b1, b2, b3, b4⟩ := HRWi.out w7 M7.out.bel
              have lk : kb < w7.heap.size := World.block_lt_of_cell? _ _ q1
              have lab : ab < w7.heap.size := World.block_lt_of_cell? _ _ p1
              have lbb : bb < w7.heap.size := World.block_lt_of_cell? _ _ r1
              have la1 : ga1 < w7.heap.size := World.block_lt_of_cell? _ _ a1
              have la2 : ga2 < w7.heap.size := World.block_lt_of_cell? _ _ a2
              have la3 : ga3 < w7.heap.size := World.block_lt_of_cell? _ _ a3
              have lb1 : gb1 < w7.heap.size := World.block_lt_of_cell? _ _ b1
              have lb2 : gb2 < w7.heap.size := World.block_lt_of_cell? _ _ b2
              have lb3 : gb3 < w7.heap.size := World.block_lt_of_cell? _ _ b3
              have lb4 : gb4 < w7.heap.size := World.block_lt_of_cell? _ _ b4
              obtain ⟨c1, c2, c3, c4, f1, f2, f3, f4, l1, l2, l3, l4⟩ := M7.out.k.reg HKA.out hlt
              rw [if_pos rfl] at c1
              rw [HFB.out] at c2
              rw [HFZ.out] at c4
              have q1' := cell_by q1
              have q2' := cell_by q2
              have q4' := cell_by q4
              have p1' := cell_by p1
              have p2' := cell_by p2
              have p3' := cell_by p3
              have r1' := cell_by r1
              have r2' := cell_by r2
              have r3' := cell_by r3
              have r4' := cell_by r4
              have a1' := cell_by a1
              have a2' := cell_by a2
              have a3' := cell_by a3
              have b1' := cell_by b1
              have b2' := cell_by b2
              have b3' := cell_by b3
              have b4' := cell_by b4
              have c1' := cell_by c1
              go_wp2_with fail
              refine wp_region_cutQ 36 (by kernel_rfl) (by kernel_rfl) ?_
              simp only [List.take_succ_cons, List.take_zero]
              repeat (go_big_quiet_step (fail))
              refine wpQuiet_nil ?_
              intro wq hw'
              obtain ⟨⟨_, hwq⟩, hw''⟩ := hw'
              subst hw''
              simp only [List.drop_succ_cons, List.drop_zero]
              have M8 := hid ((M7.out.step hwq).putB HKA.out hlt false)
              replace c2 := cell_keep c2 hwq
              have fz1 := ((M7.out.step hwq).k.reg HKA.out hlt).f2
              have hl1 : g2 < wq.heap.size := World.block_lt_of_cell? _ _ c2
              obtain ⟨w8, hw8⟩ : ∃ W, W = wq.setCell ⟨g2, i, none⟩ (.bool false) := ⟨_, rfl⟩
              rw [← hw8] at M8
              have E8 := hid hw8
              clear q1 q2 q4 p1 p2 p3 r1 r2 r3 r4 a1 a2 a3 b1 b2 b3 b4 c1 q1' q2' q4' p1' p2' p3' r1' r2' r3' r4' a1' a2' a3' b1' b2' b3' b4' c1' lk lab lbb la1 la2 la3 lb1 lb2 lb3 lb4 c3 c4 f1 f2 f3 f4 l1 l2 l3 l4 hwq hw8 M7
              go_upto_region 9 with fail
              rw [← E8.out]
              clear E8 c2 fz1 hl1
              obtain ⟨q1, q2, q4⟩ := HCK.out w8 M8.out.kx
              obtain ⟨p1, p2, p3⟩ := HCA.out w8 M8.out.bel
              obtain ⟨r1, r2, r3, r4⟩ := HCB.out w8 M8.out.bel
              obtain ⟨a1, a2, a3, b1, b2, b3, b4⟩ := HRWi.out w8 M8.out.bel
              have lk : kb < w8.heap.size := World.block_lt_of_cell? _ _ q1
              have lab : ab < w8.heap.size := World.block_lt_of_cell? _ _ p1
              have lbb : bb < w8.heap.size := World.block_lt_of_cell? _ _ r1
              have la1 : ga1 < w8.heap.size := World.block_lt_of_cell? _ _ a1
              have la2 : ga2 < w8.heap.size := World.block_lt_of_cell? _ _ a2
              have la3 : ga3 < w8.heap.size := World.block_lt_of_cell? _ _ a3
              have lb1 : gb1 < w8.heap.size := World.block_lt_of_cell? _ _ b1
              have lb2 : gb2 < w8.heap.size := World.block_lt_of_cell? _ _ b2
              have lb3 : gb3 < w8.heap.size := World.block_lt_of_cell? _ _ b3
              have lb4 : gb4 < w8.heap.size := World.block_lt_of_cell? _ _ b4
              obtain ⟨c1, c2, c3, c4, f1, f2, f3, f4, l1, l2, l3, l4⟩ := M8.out.k.reg HKA.out hlt
              rw [if_pos rfl] at c1
              rw [if_pos rfl] at c2
              rw [HFZ.out] at c4
              have q1' := cell_by q1
              have q2' := cell_by q2
              have q4' := cell_by q4
              have p1' := cell_by p1
              have p2' := cell_by p2
              have p3' := cell_by p3
              have r1' := cell_by r1
              have r2' := cell_by r2
              have r3' := cell_by r3
              have r4' := cell_by r4
              have a1' := cell_by a1
              have a2' := cell_by a2
              have a3' := cell_by a3
              have b1' := cell_by b1
              have b2' := cell_by b2
              have b3' := cell_by b3
              have b4' := cell_by b4
              have c4' := cell_by c4
              go_wp2_with fail
              refine wp_region_quiet_below (by kernel_rfl) (by kernel_rfl) ?_
              repeat (go_big_quiet_step (fail))
              refine wpQuiet_nil ?_
              intro wq hw'
              obtain ⟨⟨_, hwq⟩, hw''⟩ := hw'
              subst hw''
              have M9 := hid (M8.out.step hwq)
              clear q1 q2 q4 p1 p2 p3 r1 r2 r3 r4 a1 a2 a3 b1 b2 b3 b4 c4 q1' q2' q4' p1' p2' p3' r1' r2' r3' r4' a1' a2' a3' b1' b2' b3' b4' c4' lk lab lbb la1 la2 la3 lb1 lb2 lb3 lb4 c1 c2 c3 f1 f2 f3 f4 l1 l2 l3 l4 hwq M8
              obtain ⟨q1, q2, q4⟩ := HCK.out wq M9.out.kx
              obtain ⟨p1, p2, p3⟩ := HCA.out wq M9.out.bel
              obtain ⟨r1, r2, r3, r4⟩ := HCB.out wq M9.out.bel
              obtain ⟨a1, a2, a3, b1, b2, b3, b4⟩ := HRWi.out wq M9.out.bel
              have lk : kb < wq.heap.size := World.block_lt_of_cell? _ _ q1
              have lab : ab < wq.heap.size := World.block_lt_of_cell? _ _ p1
              have lbb : bb < wq.heap.size := World.block_lt_of_cell? _ _ r1
              have la1 : ga1 < wq.heap.size := World.block_lt_of_cell? _ _ a1
              have la2 : ga2 < wq.heap.size := World.block_lt_of_cell? _ _ a2
              have la3 : ga3 < wq.heap.size := World.block_lt_of_cell? _ _ a3
              have lb1 : gb1 < wq.heap.size := World.block_lt_of_cell? _ _ b1
              have lb2 : gb2 < wq.heap.size := World.block_lt_of_cell? _ _ b2
              have lb3 : gb3 < wq.heap.size := World.block_lt_of_cell? _ _ b3
              have lb4 : gb4 < wq.heap.size := World.block_lt_of_cell? _ _ b4
              obtain ⟨c1, c2, c3, c4, f1, f2, f3, f4, l1, l2, l3, l4⟩ := M9.out.k.reg HKA.out hlt
              rw [if_pos rfl] at c1
              rw [if_pos rfl] at c2
              rw [HFZ.out] at c4
              have q1' := cell_by q1
              have q2' := cell_by q2
              have q4' := cell_by q4
              have p1' := cell_by p1
              have p2' := cell_by p2
              have p3' := cell_by p3
              have r1' := cell_by r1
              have r2' := cell_by r2
              have r3' := cell_by r3
              have r4' := cell_by r4
              have a1' := cell_by a1
              have a2' := cell_by a2
              have a3' := cell_by a3
              have b1' := cell_by b1
              have b2' := cell_by b2
              have b3' := cell_by b3
              have b4' := cell_by b4
              go_wp2_with fail
              refine wp_region_cutQ 9 (by kernel_rfl) (by kernel_rfl) ?_
              simp only [List.take_succ_cons, List.take_zero]
              repeat (go_big_quiet_step (fail))
              refine wpQuiet_nil ?_
              intro wp hw'
              obtain ⟨⟨_, hwp⟩, hw''⟩ := hw'
              subst hw''
              simp only [List.drop_succ_cons, List.drop_zero]
              have M10 := hid ((M9.out.step hwp).putZ HKA.out hlt u)
              replace c4 := cell_keep c4 hwp
              have fz1 := ((M9.out.step hwp).k.reg HKA.out hlt).f4
              have hl1 : g4 < wp.heap.size := World.block_lt_of_cell? _ _ c4
              obtain ⟨w10, hw10⟩ : ∃ W, W = wp.setCell ⟨g4, i, none⟩ (.int .i64 u) := ⟨_, rfl⟩
              rw [← hw10] at M10
              have E10 := hid hw10
              clear q1 q2 q4 p1 p2 p3 r1 r2 r3 r4 a1 a2 a3 b1 b2 b3 b4 q1' q2' q4' p1' p2' p3' r1' r2' r3' r4' a1' a2' a3' b1' b2' b3' b4' lk lab lbb la1 la2 la3 lb1 lb2 lb3 lb4 c1 c2 c3 f1 f2 f3 f4 l1 l2 l3 l4 hwp hw10 M9
              go_upto_region 11 with fail
              rw [← E10.out]
              clear E10 c4 fz1 hl1
              obtain ⟨q1, q2, q4⟩ := HCK.out w10 M10.out.kx
              have lk : kb < w10.heap.size := World.block_lt_of_cell? _ _ q1
              obtain ⟨c1, c2, c3, c4, f1, f2, f3, f4, l1, l2, l3, l4⟩ := M10.out.k.reg HKA.out hlt
              rw [if_pos rfl] at c1
              have MX := M10.out.congr (A' := fun j => if j = i then (true && true) else fA j) (B' := fun j => if j = i then meetB true true false jb na nb else fB j) (Z' := fun j => if j = i then meetZ true true z u else fZ j) (fun j => by by_cases e : j = i <;> simp [e]) (fun j => by by_cases e : j = i <;> simp [e, eJ]) (fun j => by by_cases e : j = i <;> simp [e, eZ]) (fun _ => rfl)
              have HE := hid (HNEXT.out _ MX)
              clear MX HNEXT M10 c2 c3 c4 f1 f2 f3 f4
              go_wp2
              go_roundw
              case rel => exact ⟨i + 1, by omega, by go_num, HE⟩
              case measure => simp [intOf]; omega
            · have hui : ¬ u < z := by assumption
              have eX : (true && true) = true := by simp
              have eJ : meetB true true false jb na nb = false := by simp [meetB]
              have eZ : meetZ true true z u = z := by simp [meetZ, hui]
              obtain ⟨q1, q2, q4⟩ := HCK.out wr M.out.kx
              obtain ⟨p1, p2, p3⟩ := HCA.out wr M.out.bel
              obtain ⟨r1, r2, r3, r4⟩ := HCB.out wr M.out.bel
              obtain ⟨a1, a2, a3, b1, b2, b3, b4⟩ := HRWi.out wr M.out.bel
              have lk : kb < wr.heap.size := World.block_lt_of_cell? _ _ q1
              have lab : ab < wr.heap.size := World.block_lt_of_cell? _ _ p1
              have lbb : bb < wr.heap.size := World.block_lt_of_cell? _ _ r1
              have la1 : ga1 < wr.heap.size := World.block_lt_of_cell? _ _ a1
              have la2 : ga2 < wr.heap.size := World.block_lt_of_cell? _ _ a2
              have la3 : ga3 < wr.heap.size := World.block_lt_of_cell? _ _ a3
              have lb1 : gb1 < wr.heap.size := World.block_lt_of_cell? _ _ b1
              have lb2 : gb2 < wr.heap.size := World.block_lt_of_cell? _ _ b2
              have lb3 : gb3 < wr.heap.size := World.block_lt_of_cell? _ _ b3
              have lb4 : gb4 < wr.heap.size := World.block_lt_of_cell? _ _ b4
              obtain ⟨c1, c2, c3, c4, f1, f2, f3, f4, l1, l2, l3, l4⟩ := M.out.k.reg HKA.out hlt
              rw [HFA.out] at c1
              rw [HFB.out] at c2
              rw [HFZ.out] at c4
              have q1' := cell_by q1
              have q2' := cell_by q2
              have q4' := cell_by q4
              have p1' := cell_by p1
              have p2' := cell_by p2
              have p3' := cell_by p3
              have r1' := cell_by r1
              have r2' := cell_by r2
              have r3' := cell_by r3
              have r4' := cell_by r4
              have a1' := cell_by a1
              have a2' := cell_by a2
              have a3' := cell_by a3
              have b1' := cell_by b1
              have b2' := cell_by b2
              have b3' := cell_by b3
              have b4' := cell_by b4
              go_wp2_with fail
              refine wp_region_cutQ 16 (by kernel_rfl) (by kernel_rfl) ?_
              simp only [List.take_succ_cons, List.take_zero]
              repeat (go_big_quiet_step (fail))
              refine wpQuiet_nil ?_
              intro wq hw'
              obtain ⟨⟨_, hwq⟩, hw''⟩ := hw'
              subst hw''
              simp only [List.drop_succ_cons, List.drop_zero]
              have M7 := hid ((M.out.step hwq).putA HKA.out hlt true)
              replace c1 := cell_keep c1 hwq
              have fz1 := ((M.out.step hwq).k.reg HKA.out hlt).f1
              have hl1 : g1 < wq.heap.size := World.block_lt_of_cell? _ _ c1
              obtain ⟨w7, hw7⟩ : ∃ W, W = wq.setCell ⟨g1, i, none⟩ (.bool true) := ⟨_, rfl⟩
              rw [← hw7] at M7
              have E7 := hid hw7
              clear q1 q2 q4 p1 p2 p3 r1 r2 r3 r4 a1 a2 a3 b1 b2 b3 b4 q1' q2' q4' p1' p2' p3' r1' r2' r3' r4' a1' a2' a3' b1' b2' b3' b4' lk lab lbb la1 la2 la3 lb1 lb2 lb3 lb4 c2 c3 c4 f1 f2 f3 f4 l1 l2 l3 l4 hwq hw7 M
              go_upto_region 8 with fail
              rw [← E7.out]
              clear E7 c1 fz1 hl1
              obtain ⟨q1, q2, q4⟩ := HCK.out w7 M7.out.kx
              obtain ⟨p1, p2, p3⟩ := HCA.out w7 M7.out.bel
              obtain ⟨r1, r2, r3, r4⟩ := HCB.out w7 M7.out.bel
              obtain ⟨a1, a2, a3, b1, b2, b3, b4⟩ := HRWi.out w7 M7.out.bel
              have lk : kb < w7.heap.size := World.block_lt_of_cell? _ _ q1
              have lab : ab < w7.heap.size := World.block_lt_of_cell? _ _ p1
              have lbb : bb < w7.heap.size := World.block_lt_of_cell? _ _ r1
              have la1 : ga1 < w7.heap.size := World.block_lt_of_cell? _ _ a1
              have la2 : ga2 < w7.heap.size := World.block_lt_of_cell? _ _ a2
              have la3 : ga3 < w7.heap.size := World.block_lt_of_cell? _ _ a3
              have lb1 : gb1 < w7.heap.size := World.block_lt_of_cell? _ _ b1
              have lb2 : gb2 < w7.heap.size := World.block_lt_of_cell? _ _ b2
              have lb3 : gb3 < w7.heap.size := World.block_lt_of_cell? _ _ b3
              have lb4 : gb4 < w7.heap.size := World.block_lt_of_cell? _ _ b4
              obtain ⟨c1, c2, c3, c4, f1, f2, f3, f4, l1, l2, l3, l4⟩ := M7.out.k.reg HKA.out hlt
              rw [if_pos rfl] at c1
              rw [HFB.out] at c2
              rw [HFZ.out] at c4
              have q1' := cell_by q1
              have q2' := cell_by q2
              have q4' := cell_by q4
              have p1' := cell_by p1
              have p2' := cell_by p2
              have p3' := cell_by p3
              have r1' := cell_by r1
              have r2' := cell_by r2
              have r3' := cell_by r3
              have r4' := cell_by r4
              have a1' := cell_by a1
              have a2' := cell_by a2
              have a3' := cell_by a3
              have b1' := cell_by b1
              have b2' := cell_by b2
              have b3' := cell_by b3
              have b4' := cell_by b4
              have c1' := cell_by c1
              go_wp2_with fail
              refine wp_region_cutQ 36 (by kernel_rfl) (by kernel_rfl) ?_
              simp only [List.take_succ_cons, List.take_zero]
              repeat (go_big_quiet_step (fail))
              refine wpQuiet_nil ?_
              intro wq hw'
              obtain ⟨⟨_, hwq⟩, hw''⟩ := hw'
              subst hw''
              simp only [List.drop_succ_cons, List.drop_zero]
              have M8 := hid ((M7.out.step hwq).putB HKA.out hlt false)
              replace c2 := cell_keep c2 hwq
              have fz1 := ((M7.out.step hwq).k.reg HKA.out hlt).f2
              have hl1 : g2 < wq.heap.size := World.block_lt_of_cell? _ _ c2
              obtain ⟨w8, hw8⟩ : ∃ W, W = wq.setCell ⟨g2, i, none⟩ (.bool false) := ⟨_, rfl⟩
              rw [← hw8] at M8
              have E8 := hid hw8
              clear q1 q2 q4 p1 p2 p3 r1 r2 r3 r4 a1 a2 a3 b1 b2 b3 b4 c1 q1' q2' q4' p1' p2' p3' r1' r2' r3' r4' a1' a2' a3' b1' b2' b3' b4' c1' lk lab lbb la1 la2 la3 lb1 lb2 lb3 lb4 c3 c4 f1 f2 f3 f4 l1 l2 l3 l4 hwq hw8 M7
              go_upto_region 9 with fail
              rw [← E8.out]
              clear E8 c2 fz1 hl1
              obtain ⟨q1, q2, q4⟩ := HCK.out w8 M8.out.kx
              obtain ⟨p1, p2, p3⟩ := HCA.out w8 M8.out.bel
              obtain ⟨r1, r2, r3, r4⟩ := HCB.out w8 M8.out.bel
              obtain ⟨a1, a2, a3, b1, b2, b3, b4⟩ := HRWi.out w8 M8.out.bel
              have lk : kb < w8.heap.size := World.block_lt_of_cell? _ _ q1
              have lab : ab < w8.heap.size := World.block_lt_of_cell? _ _ p1
              have lbb : bb < w8.heap.size := World.block_lt_of_cell? _ _ r1
              have la1 : ga1 < w8.heap.size := World.block_lt_of_cell? _ _ a1
              have la2 : ga2 < w8.heap.size := World.block_lt_of_cell? _ _ a2
              have la3 : ga3 < w8.heap.size := World.block_lt_of_cell? _ _ a3
              have lb1 : gb1 < w8.heap.size := World.block_lt_of_cell? _ _ b1
              have lb2 : gb2 < w8.heap.size := World.block_lt_of_cell? _ _ b2
              have lb3 : gb3 < w8.heap.size := World.block_lt_of_cell? _ _ b3
              have lb4 : gb4 < w8.heap.size := World.block_lt_of_cell? _ _ b4
              obtain ⟨c1, c2, c3, c4, f1, f2, f3, f4, l1, l2, l3, l4⟩ := M8.out.k.reg HKA.out hlt
              rw [if_pos rfl] at c1
              rw [if_pos rfl] at c2
              rw [HFZ.out] at c4
              have q1' := cell_by q1
              have q2' := cell_by q2
              have q4' := cell_by q4
              have p1' := cell_by p1
              have p2' := cell_by p2
              have p3' := cell_by p3
              have r1' := cell_by r1
              have r2' := cell_by r2
              have r3' := cell_by r3
              have r4' := cell_by r4
              have a1' := cell_by a1
              have a2' := cell_by a2
              have a3' := cell_by a3
              have b1' := cell_by b1
              have b2' := cell_by b2
              have b3' := cell_by b3
              have b4' := cell_by b4
              have c4' := cell_by c4
              go_wp2_with fail
              refine wp_region_quiet_below (by kernel_rfl) (by kernel_rfl) ?_
              repeat (go_big_quiet_step (fail))
              refine wpQuiet_nil ?_
              intro wq hw'
              obtain ⟨⟨_, hwq⟩, hw''⟩ := hw'
              subst hw''
              have M9 := hid (M8.out.step hwq)
              clear q1 q2 q4 p1 p2 p3 r1 r2 r3 r4 a1 a2 a3 b1 b2 b3 b4 c4 q1' q2' q4' p1' p2' p3' r1' r2' r3' r4' a1' a2' a3' b1' b2' b3' b4' c4' lk lab lbb la1 la2 la3 lb1 lb2 lb3 lb4 c1 c2 c3 f1 f2 f3 f4 l1 l2 l3 l4 hwq M8
              obtain ⟨q1, q2, q4⟩ := HCK.out wq M9.out.kx
              have lk : kb < wq.heap.size := World.block_lt_of_cell? _ _ q1
              obtain ⟨c1, c2, c3, c4, f1, f2, f3, f4, l1, l2, l3, l4⟩ := M9.out.k.reg HKA.out hlt
              rw [if_pos rfl] at c1
              have MX := M9.out.congr (A' := fun j => if j = i then (true && true) else fA j) (B' := fun j => if j = i then meetB true true false jb na nb else fB j) (Z' := fun j => if j = i then meetZ true true z u else fZ j) (fun j => by by_cases e : j = i <;> simp [e]) (fun j => by by_cases e : j = i <;> simp [e, eJ]) (fun j => by by_cases e : j = i <;> simp [e, eZ, HFZ.out]) (fun _ => rfl)
              have HE := hid (HNEXT.out _ MX)
              clear MX HNEXT M9 c2 c3 c4 f1 f2 f3 f4
              go_wp2
              go_roundw
              case rel => exact ⟨i + 1, by omega, by go_num, HE⟩
              case measure => simp [intOf]; omega
          | true =>
            cases jb with
            | false =>
              by_cases hz : u < z
              · have hui : u < z := by assumption
                have eX : (true && true) = true := by simp
                have eJ : meetB true true true false na nb = false := by simp [meetB]
                have eZ : meetZ true true z u = u := by simp [meetZ, hui]
                obtain ⟨q1, q2, q4⟩ := HCK.out wr M.out.kx
                obtain ⟨p1, p2, p3⟩ := HCA.out wr M.out.bel
                obtain ⟨r1, r2, r3, r4⟩ := HCB.out wr M.out.bel
                obtain ⟨a1, a2, a3, b1, b2, b3, b4⟩ := HRWi.out wr M.out.bel
                have lk : kb < wr.heap.size := World.block_lt_of_cell? _ _ q1
                have lab : ab < wr.heap.size := World.block_lt_of_cell? _ _ p1
                have lbb : bb < wr.heap.size := World.block_lt_of_cell? _ _ r1
                have la1 : ga1 < wr.heap.size := World.block_lt_of_cell? _ _ a1
                have la2 : ga2 < wr.heap.size := World.block_lt_of_cell? _ _ a2
                have la3 : ga3 < wr.heap.size := World.block_lt_of_cell? _ _ a3
                have lb1 : gb1 < wr.heap.size := World.block_lt_of_cell? _ _ b1
                have lb2 : gb2 < wr.heap.size := World.block_lt_of_cell? _ _ b2
                have lb3 : gb3 < wr.heap.size := World.block_lt_of_cell? _ _ b3
                have lb4 : gb4 < wr.heap.size := World.block_lt_of_cell? _ _ b4
                obtain ⟨c1, c2, c3, c4, f1, f2, f3, f4, l1, l2, l3, l4⟩ := M.out.k.reg HKA.out hlt
                rw [HFA.out] at c1
                rw [HFB.out] at c2
                rw [HFZ.out] at c4
                have q1' := cell_by q1
                have q2' := cell_by q2
                have q4' := cell_by q4
                have p1' := cell_by p1
                have p2' := cell_by p2
                have p3' := cell_by p3
                have r1' := cell_by r1
                have r2' := cell_by r2
                have r3' := cell_by r3
                have r4' := cell_by r4
                have a1' := cell_by a1
                have a2' := cell_by a2
                have a3' := cell_by a3
                have b1' := cell_by b1
                have b2' := cell_by b2
                have b3' := cell_by b3
                have b4' := cell_by b4
                go_wp2_with fail
                refine wp_region_cutQ 16 (by kernel_rfl) (by kernel_rfl) ?_
                simp only [List.take_succ_cons, List.take_zero]
                repeat (go_big_quiet_step (fail))
                refine wpQuiet_nil ?_
                intro wq hw'
                obtain ⟨⟨_, hwq⟩, hw''⟩ := hw'
                subst hw''
                simp only [List.drop_succ_cons, List.drop_zero]
                have M7 := hid ((M.out.step hwq).putA HKA.out hlt true)
                replace c1 := cell_keep c1 hwq
                have fz1 := ((M.out.step hwq).k.reg HKA.out hlt).f1
                have hl1 : g1 < wq.heap.size := World.block_lt_of_cell? _ _ c1
                obtain ⟨w7, hw7⟩ : ∃ W, W = wq.setCell ⟨g1, i, none⟩ (.bool true) := ⟨_, rfl⟩
                rw [← hw7] at M7
                have E7 := hid hw7
                clear q1 q2 q4 p1 p2 p3 r1 r2 r3 r4 a1 a2 a3 b1 b2 b3 b4 q1' q2' q4' p1' p2' p3' r1' r2' r3' r4' a1' a2' a3' b1' b2' b3' b4' lk lab lbb la1 la2 la3 lb1 lb2 lb3 lb4 c2 c3 c4 f1 f2 f3 f4 l1 l2 l3 l4 hwq hw7 M
                go_upto_region 8 with fail
                rw [← E7.out]
                clear E7 c1 fz1 hl1
                obtain ⟨q1, q2, q4⟩ := HCK.out w7 M7.out.kx
                obtain ⟨p1, p2, p3⟩ := HCA.out w7 M7.out.bel
                obtain ⟨r1, r2, r3, r4⟩ := HCB.out w7 M7.out.bel
                obtain ⟨a1, a2, a3, b1, b2, b3, b4⟩ := HRWi.out w7 M7.out.bel
                have lk : kb < w7.heap.size := World.block_lt_of_cell? _ _ q1
                have lab : ab < w7.heap.size := World.block_lt_of_cell? _ _ p1
                have lbb : bb < w7.heap.size := World.block_lt_of_cell? _ _ r1
                have la1 : ga1 < w7.heap.size := World.block_lt_of_cell? _ _ a1
                have la2 : ga2 < w7.heap.size := World.block_lt_of_cell? _ _ a2
                have la3 : ga3 < w7.heap.size := World.block_lt_of_cell? _ _ a3
                have lb1 : gb1 < w7.heap.size := World.block_lt_of_cell? _ _ b1
                have lb2 : gb2 < w7.heap.size := World.block_lt_of_cell? _ _ b2
                have lb3 : gb3 < w7.heap.size := World.block_lt_of_cell? _ _ b3
                have lb4 : gb4 < w7.heap.size := World.block_lt_of_cell? _ _ b4
                obtain ⟨c1, c2, c3, c4, f1, f2, f3, f4, l1, l2, l3, l4⟩ := M7.out.k.reg HKA.out hlt
                rw [if_pos rfl] at c1
                rw [HFB.out] at c2
                rw [HFZ.out] at c4
                have q1' := cell_by q1
                have q2' := cell_by q2
                have q4' := cell_by q4
                have p1' := cell_by p1
                have p2' := cell_by p2
                have p3' := cell_by p3
                have r1' := cell_by r1
                have r2' := cell_by r2
                have r3' := cell_by r3
                have r4' := cell_by r4
                have a1' := cell_by a1
                have a2' := cell_by a2
                have a3' := cell_by a3
                have b1' := cell_by b1
                have b2' := cell_by b2
                have b3' := cell_by b3
                have b4' := cell_by b4
                have c1' := cell_by c1
                go_wp2_with fail
                refine wp_region_cutQ 36 (by kernel_rfl) (by kernel_rfl) ?_
                simp only [List.take_succ_cons, List.take_zero]
                repeat (go_big_quiet_step (fail))
                refine wpQuiet_nil ?_
                intro wq hw'
                obtain ⟨⟨_, hwq⟩, hw''⟩ := hw'
                subst hw''
                simp only [List.drop_succ_cons, List.drop_zero]
                have M8 := hid ((M7.out.step hwq).putB HKA.out hlt false)
                replace c2 := cell_keep c2 hwq
                have fz1 := ((M7.out.step hwq).k.reg HKA.out hlt).f2
                have hl1 : g2 < wq.heap.size := World.block_lt_of_cell? _ _ c2
                obtain ⟨w8, hw8⟩ : ∃ W, W = wq.setCell ⟨g2, i, none⟩ (.bool false) := ⟨_, rfl⟩
                rw [← hw8] at M8
                have E8 := hid hw8
                clear q1 q2 q4 p1 p2 p3 r1 r2 r3 r4 a1 a2 a3 b1 b2 b3 b4 c1 q1' q2' q4' p1' p2' p3' r1' r2' r3' r4' a1' a2' a3' b1' b2' b3' b4' c1' lk lab lbb la1 la2 la3 lb1 lb2 lb3 lb4 c3 c4 f1 f2 f3 f4 l1 l2 l3 l4 hwq hw8 M7
                go_upto_region 9 with fail
                rw [← E8.out]
                clear E8 c2 fz1 hl1
                obtain ⟨q1, q2, q4⟩ := HCK.out w8 M8.out.kx
                obtain ⟨p1, p2, p3⟩ := HCA.out w8 M8.out.bel
                obtain ⟨r1, r2, r3, r4⟩ := HCB.out w8 M8.out.bel
                obtain ⟨a1, a2, a3, b1, b2, b3, b4⟩ := HRWi.out w8 M8.out.bel
                have lk : kb < w8.heap.size := World.block_lt_of_cell? _ _ q1
                have lab : ab < w8.heap.size := World.block_lt_of_cell? _ _ p1
                have lbb : bb < w8.heap.size := World.block_lt_of_cell? _ _ r1
                have la1 : ga1 < w8.heap.size := World.block_lt_of_cell? _ _ a1
                have la2 : ga2 < w8.heap.size := World.block_lt_of_cell? _ _ a2
                have la3 : ga3 < w8.heap.size := World.block_lt_of_cell? _ _ a3
                have lb1 : gb1 < w8.heap.size := World.block_lt_of_cell? _ _ b1
                have lb2 : gb2 < w8.heap.size := World.block_lt_of_cell? _ _ b2
                have lb3 : gb3 < w8.heap.size := World.block_lt_of_cell? _ _ b3
                have lb4 : gb4 < w8.heap.size := World.block_lt_of_cell? _ _ b4
                obtain ⟨c1, c2, c3, c4, f1, f2, f3, f4, l1, l2, l3, l4⟩ := M8.out.k.reg HKA.out hlt
                rw [if_pos rfl] at c1
                rw [if_pos rfl] at c2
                rw [HFZ.out] at c4
                have q1' := cell_by q1
                have q2' := cell_by q2
                have q4' := cell_by q4
                have p1' := cell_by p1
                have p2' := cell_by p2
                have p3' := cell_by p3
                have r1' := cell_by r1
                have r2' := cell_by r2
                have r3' := cell_by r3
                have r4' := cell_by r4
                have a1' := cell_by a1
                have a2' := cell_by a2
                have a3' := cell_by a3
                have b1' := cell_by b1
                have b2' := cell_by b2
                have b3' := cell_by b3
                have b4' := cell_by b4
                have c4' := cell_by c4
                go_wp2_with fail
                refine wp_region_quiet_below (by kernel_rfl) (by kernel_rfl) ?_
                repeat (go_big_quiet_step (fail))
                refine wpQuiet_nil ?_
                intro wq hw'
                obtain ⟨⟨_, hwq⟩, hw''⟩ := hw'
                subst hw''
                have M9 := hid (M8.out.step hwq)
                clear q1 q2 q4 p1 p2 p3 r1 r2 r3 r4 a1 a2 a3 b1 b2 b3 b4 c4 q1' q2' q4' p1' p2' p3' r1' r2' r3' r4' a1' a2' a3' b1' b2' b3' b4' c4' lk lab lbb la1 la2 la3 lb1 lb2 lb3 lb4 c1 c2 c3 f1 f2 f3 f4 l1 l2 l3 l4 hwq M8
                obtain ⟨q1, q2, q4⟩ := HCK.out wq M9.out.kx
                obtain ⟨p1, p2, p3⟩ := HCA.out wq M9.out.bel
                obtain ⟨r1, r2, r3, r4⟩ := HCB.out wq M9.out.bel
                obtain ⟨a1, a2, a3, b1, b2, b3, b4⟩ := HRWi.out wq M9.out.bel
                have lk : kb < wq.heap.size := World.block_lt_of_cell? _ _ q1
                have lab : ab < wq.heap.size := World.block_lt_of_cell? _ _ p1
                have lbb : bb < wq.heap.size := World.block_lt_of_cell? _ _ r1
                have la1 : ga1 < wq.heap.size := World.block_lt_of_cell? _ _ a1
                have la2 : ga2 < wq.heap.size := World.block_lt_of_cell? _ _ a2
                have la3 : ga3 < wq.heap.size := World.block_lt_of_cell? _ _ a3
                have lb1 : gb1 < wq.heap.size := World.block_lt_of_cell? _ _ b1
                have lb2 : gb2 < wq.heap.size := World.block_lt_of_cell? _ _ b2
                have lb3 : gb3 < wq.heap.size := World.block_lt_of_cell? _ _ b3
                have lb4 : gb4 < wq.heap.size := World.block_lt_of_cell? _ _ b4
                obtain ⟨c1, c2, c3, c4, f1, f2, f3, f4, l1, l2, l3, l4⟩ := M9.out.k.reg HKA.out hlt
                rw [if_pos rfl] at c1
                rw [if_pos rfl] at c2
                rw [HFZ.out] at c4
                have q1' := cell_by q1
                have q2' := cell_by q2
                have q4' := cell_by q4
                have p1' := cell_by p1
                have p2' := cell_by p2
                have p3' := cell_by p3
                have r1' := cell_by r1
                have r2' := cell_by r2
                have r3' := cell_by r3
                have r4' := cell_by r4
                have a1' := cell_by a1
                have a2' := cell_by a2
                have a3' := cell_by a3
                have b1' := cell_by b1
                have b2' := cell_by b2
                have b3' := cell_by b3
                have b4' := cell_by b4
                go_wp2_with fail
                refine wp_region_cutQ 9 (by kernel_rfl) (by kernel_rfl) ?_
                simp only [List.take_succ_cons, List.take_zero]
                repeat (go_big_quiet_step (fail))
                refine wpQuiet_nil ?_
                intro wp hw'
                obtain ⟨⟨_, hwp⟩, hw''⟩ := hw'
                subst hw''
                simp only [List.drop_succ_cons, List.drop_zero]
                have M10 := hid ((M9.out.step hwp).putZ HKA.out hlt u)
                replace c4 := cell_keep c4 hwp
                have fz1 := ((M9.out.step hwp).k.reg HKA.out hlt).f4
                have hl1 : g4 < wp.heap.size := World.block_lt_of_cell? _ _ c4
                obtain ⟨w10, hw10⟩ : ∃ W, W = wp.setCell ⟨g4, i, none⟩ (.int .i64 u) := ⟨_, rfl⟩
                rw [← hw10] at M10
                have E10 := hid hw10
                clear q1 q2 q4 p1 p2 p3 r1 r2 r3 r4 a1 a2 a3 b1 b2 b3 b4 q1' q2' q4' p1' p2' p3' r1' r2' r3' r4' a1' a2' a3' b1' b2' b3' b4' lk lab lbb la1 la2 la3 lb1 lb2 lb3 lb4 c1 c2 c3 f1 f2 f3 f4 l1 l2 l3 l4 hwp hw10 M9
                go_upto_region 11 with fail
                rw [← E10.out]
                clear E10 c4 fz1 hl1
                obtain ⟨q1, q2, q4⟩ := HCK.out w10 M10.out.kx
                have lk : kb < w10.heap.size := World.block_lt_of_cell? _ _ q1
                obtain ⟨c1, c2, c3, c4, f1, f2, f3, f4, l1, l2, l3, l4⟩ := M10.out.k.reg HKA.out hlt
                rw [if_pos rfl] at c1
                have MX := M10.out.congr (A' := fun j => if j = i then (true && true) else fA j) (B' := fun j => if j = i then meetB true true true false na nb else fB j) (Z' := fun j => if j = i then meetZ true true z u else fZ j) (fun j => by by_cases e : j = i <;> simp [e]) (fun j => by by_cases e : j = i <;> simp [e, eJ]) (fun j => by by_cases e : j = i <;> simp [e, eZ]) (fun _ => rfl)
                have HE := hid (HNEXT.out _ MX)
                clear MX HNEXT M10 c2 c3 c4 f1 f2 f3 f4
                go_wp2
                go_roundw
                case rel => exact ⟨i + 1, by omega, by go_num, HE⟩
                case measure => simp [intOf]; omega
              · have hui : ¬ u < z := by assumption
                have eX : (true && true) = true := by simp
                have eJ : meetB true true true false na nb = false := by simp [meetB]
                have eZ : meetZ true true z u = z := by simp [meetZ, hui]
                obtain ⟨q1, q2, q4⟩ := HCK.out wr M.out.kx
                obtain ⟨p1, p2, p3⟩ := HCA.out wr M.out.bel
                obtain ⟨r1, r2, r3, r4⟩ := HCB.out wr M.out.bel
                obtain ⟨a1, a2, a3, b1, b2, b3, b4⟩ := HRWi.out wr M.out.bel
                have lk : kb < wr.heap.size := World.block_lt_of_cell? _ _ q1
                have lab : ab < wr.heap.size := World.block_lt_of_cell? _ _ p1
                have lbb : bb < wr.heap.size := World.block_lt_of_cell? _ _ r1
                have la1 : ga1 < wr.heap.size := World.block_lt_of_cell? _ _ a1
                have la2 : ga2 < wr.heap.size := World.block_lt_of_cell? _ _ a2
                have la3 : ga3 < wr.heap.size := World.block_lt_of_cell? _ _ a3
                have lb1 : gb1 < wr.heap.size := World.block_lt_of_cell? _ _ b1
                have lb2 : gb2 < wr.heap.size := World.block_lt_of_cell? _ _ b2
                have lb3 : gb3 < wr.heap.size := World.block_lt_of_cell? _ _ b3
                have lb4 : gb4 < wr.heap.size := World.block_lt_of_cell? _ _ b4
                obtain ⟨c1, c2, c3, c4, f1, f2, f3, f4, l1, l2, l3, l4⟩ := M.out.k.reg HKA.out hlt
                rw [HFA.out] at c1
                rw [HFB.out] at c2
                rw [HFZ.out] at c4
                have q1' := cell_by q1
                have q2' := cell_by q2
                have q4' := cell_by q4
                have p1' := cell_by p1
                have p2' := cell_by p2
                have p3' := cell_by p3
                have r1' := cell_by r1
                have r2' := cell_by r2
                have r3' := cell_by r3
                have r4' := cell_by r4
                have a1' := cell_by a1
                have a2' := cell_by a2
                have a3' := cell_by a3
                have b1' := cell_by b1
                have b2' := cell_by b2
                have b3' := cell_by b3
                have b4' := cell_by b4
                go_wp2_with fail
                refine wp_region_cutQ 16 (by kernel_rfl) (by kernel_rfl) ?_
                simp only [List.take_succ_cons, List.take_zero]
                repeat (go_big_quiet_step (fail))
                refine wpQuiet_nil ?_
                intro wq hw'
                obtain ⟨⟨_, hwq⟩, hw''⟩ := hw'
                subst hw''
                simp only [List.drop_succ_cons, List.drop_zero]
                have M7 := hid ((M.out.step hwq).putA HKA.out hlt true)
                replace c1 := cell_keep c1 hwq
                have fz1 := ((M.out.step hwq).k.reg HKA.out hlt).f1
                have hl1 : g1 < wq.heap.size := World.block_lt_of_cell? _ _ c1
                obtain ⟨w7, hw7⟩ : ∃ W, W = wq.setCell ⟨g1, i, none⟩ (.bool true) := ⟨_, rfl⟩
                rw [← hw7] at M7
                have E7 := hid hw7
                clear q1 q2 q4 p1 p2 p3 r1 r2 r3 r4 a1 a2 a3 b1 b2 b3 b4 q1' q2' q4' p1' p2' p3' r1' r2' r3' r4' a1' a2' a3' b1' b2' b3' b4' lk lab lbb la1 la2 la3 lb1 lb2 lb3 lb4 c2 c3 c4 f1 f2 f3 f4 l1 l2 l3 l4 hwq hw7 M
                go_upto_region 8 with fail
                rw [← E7.out]
                clear E7 c1 fz1 hl1
                obtain ⟨q1, q2, q4⟩ := HCK.out w7 M7.out.kx
                obtain ⟨p1, p2, p3⟩ := HCA.out w7 M7.out.bel
                obtain ⟨r1, r2, r3, r4⟩ := HCB.out w7 M7.out.bel
                obtain ⟨a1, a2, a3, b1, b2, b3, b4⟩ := HRWi.out w7 M7.out.bel
                have lk : kb < w7.heap.size := World.block_lt_of_cell? _ _ q1
                have lab : ab < w7.heap.size := World.block_lt_of_cell? _ _ p1
                have lbb : bb < w7.heap.size := World.block_lt_of_cell? _ _ r1
                have la1 : ga1 < w7.heap.size := World.block_lt_of_cell? _ _ a1
                have la2 : ga2 < w7.heap.size := World.block_lt_of_cell? _ _ a2
                have la3 : ga3 < w7.heap.size := World.block_lt_of_cell? _ _ a3
                have lb1 : gb1 < w7.heap.size := World.block_lt_of_cell? _ _ b1
                have lb2 : gb2 < w7.heap.size := World.block_lt_of_cell? _ _ b2
                have lb3 : gb3 < w7.heap.size := World.block_lt_of_cell? _ _ b3
                have lb4 : gb4 < w7.heap.size := World.block_lt_of_cell? _ _ b4
                obtain ⟨c1, c2, c3, c4, f1, f2, f3, f4, l1, l2, l3, l4⟩ := M7.out.k.reg HKA.out hlt
                rw [if_pos rfl] at c1
                rw [HFB.out] at c2
                rw [HFZ.out] at c4
                have q1' := cell_by q1
                have q2' := cell_by q2
                have q4' := cell_by q4
                have p1' := cell_by p1
                have p2' := cell_by p2
                have p3' := cell_by p3
                have r1' := cell_by r1
                have r2' := cell_by r2
                have r3' := cell_by r3
                have r4' := cell_by r4
                have a1' := cell_by a1
                have a2' := cell_by a2
                have a3' := cell_by a3
                have b1' := cell_by b1
                have b2' := cell_by b2
                have b3' := cell_by b3
                have b4' := cell_by b4
                have c1' := cell_by c1
                go_wp2_with fail
                refine wp_region_cutQ 36 (by kernel_rfl) (by kernel_rfl) ?_
                simp only [List.take_succ_cons, List.take_zero]
                repeat (go_big_quiet_step (fail))
                refine wpQuiet_nil ?_
                intro wq hw'
                obtain ⟨⟨_, hwq⟩, hw''⟩ := hw'
                subst hw''
                simp only [List.drop_succ_cons, List.drop_zero]
                have M8 := hid ((M7.out.step hwq).putB HKA.out hlt false)
                replace c2 := cell_keep c2 hwq
                have fz1 := ((M7.out.step hwq).k.reg HKA.out hlt).f2
                have hl1 : g2 < wq.heap.size := World.block_lt_of_cell? _ _ c2
                obtain ⟨w8, hw8⟩ : ∃ W, W = wq.setCell ⟨g2, i, none⟩ (.bool false) := ⟨_, rfl⟩
                rw [← hw8] at M8
                have E8 := hid hw8
                clear q1 q2 q4 p1 p2 p3 r1 r2 r3 r4 a1 a2 a3 b1 b2 b3 b4 c1 q1' q2' q4' p1' p2' p3' r1' r2' r3' r4' a1' a2' a3' b1' b2' b3' b4' c1' lk lab lbb la1 la2 la3 lb1 lb2 lb3 lb4 c3 c4 f1 f2 f3 f4 l1 l2 l3 l4 hwq hw8 M7
                go_upto_region 9 with fail
                rw [← E8.out]
                clear E8 c2 fz1 hl1
                obtain ⟨q1, q2, q4⟩ := HCK.out w8 M8.out.kx
                obtain ⟨p1, p2, p3⟩ := HCA.out w8 M8.out.bel
                obtain ⟨r1, r2, r3, r4⟩ := HCB.out w8 M8.out.bel
                obtain ⟨a1, a2, a3, b1, b2, b3, b4⟩ := HRWi.out w8 M8.out.bel
                have lk : kb < w8.heap.size := World.block_lt_of_cell? _ _ q1
                have lab : ab < w8.heap.size := World.block_lt_of_cell? _ _ p1
                have lbb : bb < w8.heap.size := World.block_lt_of_cell? _ _ r1
                have la1 : ga1 < w8.heap.size := World.block_lt_of_cell? _ _ a1
                have la2 : ga2 < w8.heap.size := World.block_lt_of_cell? _ _ a2
                have la3 : ga3 < w8.heap.size := World.block_lt_of_cell? _ _ a3
                have lb1 : gb1 < w8.heap.size := World.block_lt_of_cell? _ _ b1
                have lb2 : gb2 < w8.heap.size := World.block_lt_of_cell? _ _ b2
                have lb3 : gb3 < w8.heap.size := World.block_lt_of_cell? _ _ b3
                have lb4 : gb4 < w8.heap.size := World.block_lt_of_cell? _ _ b4
                obtain ⟨c1, c2, c3, c4, f1, f2, f3, f4, l1, l2, l3, l4⟩ := M8.out.k.reg HKA.out hlt
                rw [if_pos rfl] at c1
                rw [if_pos rfl] at c2
                rw [HFZ.out] at c4
                have q1' := cell_by q1
                have q2' := cell_by q2
                have q4' := cell_by q4
                have p1' := cell_by p1
                have p2' := cell_by p2
                have p3' := cell_by p3
                have r1' := cell_by r1
                have r2' := cell_by r2
                have r3' := cell_by r3
                have r4' := cell_by r4
                have a1' := cell_by a1
                have a2' := cell_by a2
                have a3' := cell_by a3
                have b1' := cell_by b1
                have b2' := cell_by b2
                have b3' := cell_by b3
                have b4' := cell_by b4
                have c4' := cell_by c4
                go_wp2_with fail
                refine wp_region_quiet_below (by kernel_rfl) (by kernel_rfl) ?_
                repeat (go_big_quiet_step (fail))
                refine wpQuiet_nil ?_
                intro wq hw'
                obtain ⟨⟨_, hwq⟩, hw''⟩ := hw'
                subst hw''
                have M9 := hid (M8.out.step hwq)
                clear q1 q2 q4 p1 p2 p3 r1 r2 r3 r4 a1 a2 a3 b1 b2 b3 b4 c4 q1' q2' q4' p1' p2' p3' r1' r2' r3' r4' a1' a2' a3' b1' b2' b3' b4' c4' lk lab lbb la1 la2 la3 lb1 lb2 lb3 lb4 c1 c2 c3 f1 f2 f3 f4 l1 l2 l3 l4 hwq M8
                obtain ⟨q1, q2, q4⟩ := HCK.out wq M9.out.kx
                have lk : kb < wq.heap.size := World.block_lt_of_cell? _ _ q1
                obtain ⟨c1, c2, c3, c4, f1, f2, f3, f4, l1, l2, l3, l4⟩ := M9.out.k.reg HKA.out hlt
                rw [if_pos rfl] at c1
                have MX := M9.out.congr (A' := fun j => if j = i then (true && true) else fA j) (B' := fun j => if j = i then meetB true true true false na nb else fB j) (Z' := fun j => if j = i then meetZ true true z u else fZ j) (fun j => by by_cases e : j = i <;> simp [e]) (fun j => by by_cases e : j = i <;> simp [e, eJ]) (fun j => by by_cases e : j = i <;> simp [e, eZ, HFZ.out]) (fun _ => rfl)
                have HE := hid (HNEXT.out _ MX)
                clear MX HNEXT M9 c2 c3 c4 f1 f2 f3 f4
                go_wp2
                go_roundw
                case rel => exact ⟨i + 1, by omega, by go_num, HE⟩
                case measure => simp [intOf]; omega
            | true =>
              by_cases hne : na = nb
              · subst hne
                by_cases hz : u < z
                · have hui : u < z := by assumption
                  have eX : (true && true) = true := by simp
                  have eJ : meetB true true true true na na = true := by simp [meetB]
                  have eZ : meetZ true true z u = u := by simp [meetZ, hui]
                  obtain ⟨q1, q2, q4⟩ := HCK.out wr M.out.kx
                  obtain ⟨p1, p2, p3⟩ := HCA.out wr M.out.bel
                  obtain ⟨r1, r2, r3, r4⟩ := HCB.out wr M.out.bel
                  obtain ⟨a1, a2, a3, b1, b2, b3, b4⟩ := HRWi.out wr M.out.bel
                  have lk : kb < wr.heap.size := World.block_lt_of_cell? _ _ q1
                  have lab : ab < wr.heap.size := World.block_lt_of_cell? _ _ p1
                  have lbb : bb < wr.heap.size := World.block_lt_of_cell? _ _ r1
                  have la1 : ga1 < wr.heap.size := World.block_lt_of_cell? _ _ a1
                  have la2 : ga2 < wr.heap.size := World.block_lt_of_cell? _ _ a2
                  have la3 : ga3 < wr.heap.size := World.block_lt_of_cell? _ _ a3
                  have lb1 : gb1 < wr.heap.size := World.block_lt_of_cell? _ _ b1
                  have lb2 : gb2 < wr.heap.size := World.block_lt_of_cell? _ _ b2
                  have lb3 : gb3 < wr.heap.size := World.block_lt_of_cell? _ _ b3
                  have lb4 : gb4 < wr.heap.size := World.block_lt_of_cell? _ _ b4
                  obtain ⟨c1, c2, c3, c4, f1, f2, f3, f4, l1, l2, l3, l4⟩ := M.out.k.reg HKA.out hlt
                  rw [HFA.out] at c1
                  rw [HFB.out] at c2
                  rw [HFZ.out] at c4
                  have q1' := cell_by q1
                  have q2' := cell_by q2
                  have q4' := cell_by q4
                  have p1' := cell_by p1
                  have p2' := cell_by p2
                  have p3' := cell_by p3
                  have r1' := cell_by r1
                  have r2' := cell_by r2
                  have r3' := cell_by r3
                  have r4' := cell_by r4
                  have a1' := cell_by a1
                  have a2' := cell_by a2
                  have a3' := cell_by a3
                  have b1' := cell_by b1
                  have b2' := cell_by b2
                  have b3' := cell_by b3
                  have b4' := cell_by b4
                  go_wp2_with fail
                  refine wp_region_cutQ 16 (by kernel_rfl) (by kernel_rfl) ?_
                  simp only [List.take_succ_cons, List.take_zero]
                  repeat (go_big_quiet_step (fail))
                  refine wpQuiet_nil ?_
                  intro wq hw'
                  obtain ⟨⟨_, hwq⟩, hw''⟩ := hw'
                  subst hw''
                  simp only [List.drop_succ_cons, List.drop_zero]
                  have M7 := hid ((M.out.step hwq).putA HKA.out hlt true)
                  replace c1 := cell_keep c1 hwq
                  have fz1 := ((M.out.step hwq).k.reg HKA.out hlt).f1
                  have hl1 : g1 < wq.heap.size := World.block_lt_of_cell? _ _ c1
                  obtain ⟨w7, hw7⟩ : ∃ W, W = wq.setCell ⟨g1, i, none⟩ (.bool true) := ⟨_, rfl⟩
                  rw [← hw7] at M7
                  have E7 := hid hw7
                  clear q1 q2 q4 p1 p2 p3 r1 r2 r3 r4 a1 a2 a3 b1 b2 b3 b4 q1' q2' q4' p1' p2' p3' r1' r2' r3' r4' a1' a2' a3' b1' b2' b3' b4' lk lab lbb la1 la2 la3 lb1 lb2 lb3 lb4 c2 c3 c4 f1 f2 f3 f4 l1 l2 l3 l4 hwq hw7 M
                  go_upto_region 8 with fail
                  rw [← E7.out]
                  clear E7 c1 fz1 hl1
                  obtain ⟨q1, q2, q4⟩ := HCK.out w7 M7.out.kx
                  obtain ⟨p1, p2, p3⟩ := HCA.out w7 M7.out.bel
                  obtain ⟨r1, r2, r3, r4⟩ := HCB.out w7 M7.out.bel
                  obtain ⟨a1, a2, a3, b1, b2, b3, b4⟩ := HRWi.out w7 M7.out.bel
                  have lk : kb < w7.heap.size := World.block_lt_of_cell? _ _ q1
                  have lab : ab < w7.heap.size := World.block_lt_of_cell? _ _ p1
                  have lbb : bb < w7.heap.size := World.block_lt_of_cell? _ _ r1
                  have la1 : ga1 < w7.heap.size := World.block_lt_of_cell? _ _ a1
                  have la2 : ga2 < w7.heap.size := World.block_lt_of_cell? _ _ a2
                  have la3 : ga3 < w7.heap.size := World.block_lt_of_cell? _ _ a3
                  have lb1 : gb1 < w7.heap.size := World.block_lt_of_cell? _ _ b1
                  have lb2 : gb2 < w7.heap.size := World.block_lt_of_cell? _ _ b2
                  have lb3 : gb3 < w7.heap.size := World.block_lt_of_cell? _ _ b3
                  have lb4 : gb4 < w7.heap.size := World.block_lt_of_cell? _ _ b4
                  obtain ⟨c1, c2, c3, c4, f1, f2, f3, f4, l1, l2, l3, l4⟩ := M7.out.k.reg HKA.out hlt
                  rw [if_pos rfl] at c1
                  rw [HFB.out] at c2
                  rw [HFZ.out] at c4
                  have q1' := cell_by q1
                  have q2' := cell_by q2
                  have q4' := cell_by q4
                  have p1' := cell_by p1
                  have p2' := cell_by p2
                  have p3' := cell_by p3
                  have r1' := cell_by r1
                  have r2' := cell_by r2
                  have r3' := cell_by r3
                  have r4' := cell_by r4
                  have a1' := cell_by a1
                  have a2' := cell_by a2
                  have a3' := cell_by a3
                  have b1' := cell_by b1
                  have b2' := cell_by b2
                  have b3' := cell_by b3
                  have b4' := cell_by b4
                  have c1' := cell_by c1
                  go_wp2_with fail
                  refine wp_region_cutQ 36 (by kernel_rfl) (by kernel_rfl) ?_
                  simp only [List.take_succ_cons, List.take_zero]
                  repeat (go_big_quiet_step (fail))
                  refine wpQuiet_nil ?_
                  intro wq hw'
                  obtain ⟨⟨_, hwq⟩, hw''⟩ := hw'
                  subst hw''
                  simp only [List.drop_succ_cons, List.drop_zero]
                  have M8 := hid ((M7.out.step hwq).putB HKA.out hlt true)
                  replace c2 := cell_keep c2 hwq
                  have fz1 := ((M7.out.step hwq).k.reg HKA.out hlt).f2
                  have hl1 : g2 < wq.heap.size := World.block_lt_of_cell? _ _ c2
                  obtain ⟨w8, hw8⟩ : ∃ W, W = wq.setCell ⟨g2, i, none⟩ (.bool true) := ⟨_, rfl⟩
                  rw [← hw8] at M8
                  have E8 := hid hw8
                  clear q1 q2 q4 p1 p2 p3 r1 r2 r3 r4 a1 a2 a3 b1 b2 b3 b4 c1 q1' q2' q4' p1' p2' p3' r1' r2' r3' r4' a1' a2' a3' b1' b2' b3' b4' c1' lk lab lbb la1 la2 la3 lb1 lb2 lb3 lb4 c3 c4 f1 f2 f3 f4 l1 l2 l3 l4 hwq hw8 M7
                  go_upto_region 9 with fail
                  rw [← E8.out]
                  clear E8 c2 fz1 hl1
                  obtain ⟨q1, q2, q4⟩ := HCK.out w8 M8.out.kx
                  obtain ⟨p1, p2, p3⟩ := HCA.out w8 M8.out.bel
                  obtain ⟨r1, r2, r3, r4⟩ := HCB.out w8 M8.out.bel
                  obtain ⟨a1, a2, a3, b1, b2, b3, b4⟩ := HRWi.out w8 M8.out.bel
                  have lk : kb < w8.heap.size := World.block_lt_of_cell? _ _ q1
                  have lab : ab < w8.heap.size := World.block_lt_of_cell? _ _ p1
                  have lbb : bb < w8.heap.size := World.block_lt_of_cell? _ _ r1
                  have la1 : ga1 < w8.heap.size := World.block_lt_of_cell? _ _ a1
                  have la2 : ga2 < w8.heap.size := World.block_lt_of_cell? _ _ a2
                  have la3 : ga3 < w8.heap.size := World.block_lt_of_cell? _ _ a3
                  have lb1 : gb1 < w8.heap.size := World.block_lt_of_cell? _ _ b1
                  have lb2 : gb2 < w8.heap.size := World.block_lt_of_cell? _ _ b2
                  have lb3 : gb3 < w8.heap.size := World.block_lt_of_cell? _ _ b3
                  have lb4 : gb4 < w8.heap.size := World.block_lt_of_cell? _ _ b4
                  obtain ⟨c1, c2, c3, c4, f1, f2, f3, f4, l1, l2, l3, l4⟩ := M8.out.k.reg HKA.out hlt
                  rw [if_pos rfl] at c1
                  rw [if_pos rfl] at c2
                  rw [HFZ.out] at c4
                  have q1' := cell_by q1
                  have q2' := cell_by q2
                  have q4' := cell_by q4
                  have p1' := cell_by p1
                  have p2' := cell_by p2
                  have p3' := cell_by p3
                  have r1' := cell_by r1
                  have r2' := cell_by r2
                  have r3' := cell_by r3
                  have r4' := cell_by r4
                  have a1' := cell_by a1
                  have a2' := cell_by a2
                  have a3' := cell_by a3
                  have b1' := cell_by b1
                  have b2' := cell_by b2
                  have b3' := cell_by b3
                  have b4' := cell_by b4
                  have c4' := cell_by c4
                  go_wp2_with fail
                  refine wp_region_quiet_below (by kernel_rfl) (by kernel_rfl) ?_
                  repeat (go_big_quiet_step (fail))
                  refine wpQuiet_nil ?_
                  intro wq hw'
                  obtain ⟨⟨_, hwq⟩, hw''⟩ := hw'
                  subst hw''
                  have M9 := hid (M8.out.step hwq)
                  clear q1 q2 q4 p1 p2 p3 r1 r2 r3 r4 a1 a2 a3 b1 b2 b3 b4 c4 q1' q2' q4' p1' p2' p3' r1' r2' r3' r4' a1' a2' a3' b1' b2' b3' b4' c4' lk lab lbb la1 la2 la3 lb1 lb2 lb3 lb4 c1 c2 c3 f1 f2 f3 f4 l1 l2 l3 l4 hwq M8
                  obtain ⟨q1, q2, q4⟩ := HCK.out wq M9.out.kx
                  obtain ⟨p1, p2, p3⟩ := HCA.out wq M9.out.bel
                  obtain ⟨r1, r2, r3, r4⟩ := HCB.out wq M9.out.bel
                  obtain ⟨a1, a2, a3, b1, b2, b3, b4⟩ := HRWi.out wq M9.out.bel
                  have lk : kb < wq.heap.size := World.block_lt_of_cell? _ _ q1
                  have lab : ab < wq.heap.size := World.block_lt_of_cell? _ _ p1
                  have lbb : bb < wq.heap.size := World.block_lt_of_cell? _ _ r1
                  have la1 : ga1 < wq.heap.size := World.block_lt_of_cell? _ _ a1
                  have la2 : ga2 < wq.heap.size := World.block_lt_of_cell? _ _ a2
                  have la3 : ga3 < wq.heap.size := World.block_lt_of_cell? _ _ a3
                  have lb1 : gb1 < wq.heap.size := World.block_lt_of_cell? _ _ b1
                  have lb2 : gb2 < wq.heap.size := World.block_lt_of_cell? _ _ b2
                  have lb3 : gb3 < wq.heap.size := World.block_lt_of_cell? _ _ b3
                  have lb4 : gb4 < wq.heap.size := World.block_lt_of_cell? _ _ b4
                  obtain ⟨c1, c2, c3, c4, f1, f2, f3, f4, l1, l2, l3, l4⟩ := M9.out.k.reg HKA.out hlt
                  rw [if_pos rfl] at c1
                  rw [if_pos rfl] at c2
                  rw [HFZ.out] at c4
                  have q1' := cell_by q1
                  have q2' := cell_by q2
                  have q4' := cell_by q4
                  have p1' := cell_by p1
                  have p2' := cell_by p2
                  have p3' := cell_by p3
                  have r1' := cell_by r1
                  have r2' := cell_by r2
                  have r3' := cell_by r3
                  have r4' := cell_by r4
                  have a1' := cell_by a1
                  have a2' := cell_by a2
                  have a3' := cell_by a3
                  have b1' := cell_by b1
                  have b2' := cell_by b2
                  have b3' := cell_by b3
                  have b4' := cell_by b4
                  go_wp2_with fail
                  refine wp_region_cutQ 9 (by kernel_rfl) (by kernel_rfl) ?_
                  simp only [List.take_succ_cons, List.take_zero]
                  repeat (go_big_quiet_step (fail))
                  refine wpQuiet_nil ?_
                  intro wp hw'
                  obtain ⟨⟨_, hwp⟩, hw''⟩ := hw'
                  subst hw''
                  simp only [List.drop_succ_cons, List.drop_zero]
                  have M10 := hid ((M9.out.step hwp).putZ HKA.out hlt u)
                  replace c4 := cell_keep c4 hwp
                  have fz1 := ((M9.out.step hwp).k.reg HKA.out hlt).f4
                  have hl1 : g4 < wp.heap.size := World.block_lt_of_cell? _ _ c4
                  obtain ⟨w10, hw10⟩ : ∃ W, W = wp.setCell ⟨g4, i, none⟩ (.int .i64 u) := ⟨_, rfl⟩
                  rw [← hw10] at M10
                  have E10 := hid hw10
                  clear q1 q2 q4 p1 p2 p3 r1 r2 r3 r4 a1 a2 a3 b1 b2 b3 b4 q1' q2' q4' p1' p2' p3' r1' r2' r3' r4' a1' a2' a3' b1' b2' b3' b4' lk lab lbb la1 la2 la3 lb1 lb2 lb3 lb4 c1 c2 c3 f1 f2 f3 f4 l1 l2 l3 l4 hwp hw10 M9
                  go_upto_region 11 with fail
                  rw [← E10.out]
                  clear E10 c4 fz1 hl1
                  obtain ⟨q1, q2, q4⟩ := HCK.out w10 M10.out.kx
                  have lk : kb < w10.heap.size := World.block_lt_of_cell? _ _ q1
                  obtain ⟨c1, c2, c3, c4, f1, f2, f3, f4, l1, l2, l3, l4⟩ := M10.out.k.reg HKA.out hlt
                  rw [if_pos rfl] at c1
                  have MX := M10.out.congr (A' := fun j => if j = i then (true && true) else fA j) (B' := fun j => if j = i then meetB true true true true na na else fB j) (Z' := fun j => if j = i then meetZ true true z u else fZ j) (fun j => by by_cases e : j = i <;> simp [e]) (fun j => by by_cases e : j = i <;> simp [e, eJ]) (fun j => by by_cases e : j = i <;> simp [e, eZ]) (fun _ => rfl)
                  have HE := hid (HNEXT.out _ MX)
                  clear MX HNEXT M10 c2 c3 c4 f1 f2 f3 f4
                  go_wp2
                  go_roundw
                  case rel => exact ⟨i + 1, by omega, by go_num, HE⟩
                  case measure => simp [intOf]; omega
                · have hui : ¬ u < z := by assumption
                  have eX : (true && true) = true := by simp
                  have eJ : meetB true true true true na na = true := by simp [meetB]
                  have eZ : meetZ true true z u = z := by simp [meetZ, hui]
                  obtain ⟨q1, q2, q4⟩ := HCK.out wr M.out.kx
                  obtain ⟨p1, p2, p3⟩ := HCA.out wr M.out.bel
                  obtain ⟨r1, r2, r3, r4⟩ := HCB.out wr M.out.bel
                  obtain ⟨a1, a2, a3, b1, b2, b3, b4⟩ := HRWi.out wr M.out.bel
                  have lk : kb < wr.heap.size := World.block_lt_of_cell? _ _ q1
                  have lab : ab < wr.heap.size := World.block_lt_of_cell? _ _ p1
                  have lbb : bb < wr.heap.size := World.block_lt_of_cell? _ _ r1
                  have la1 : ga1 < wr.heap.size := World.block_lt_of_cell? _ _ a1
                  have la2 : ga2 < wr.heap.size := World.block_lt_of_cell? _ _ a2
                  have la3 : ga3 < wr.heap.size := World.block_lt_of_cell? _ _ a3
                  have lb1 : gb1 < wr.heap.size := World.block_lt_of_cell? _ _ b1
                  have lb2 : gb2 < wr.heap.size := World.block_lt_of_cell? _ _ b2
                  have lb3 : gb3 < wr.heap.size := World.block_lt_of_cell? _ _ b3
                  have lb4 : gb4 < wr.heap.size := World.block_lt_of_cell? _ _ b4
                  obtain ⟨c1, c2, c3, c4, f1, f2, f3, f4, l1, l2, l3, l4⟩ := M.out.k.reg HKA.out hlt
                  rw [HFA.out] at c1
                  rw [HFB.out] at c2
                  rw [HFZ.out] at c4
                  have q1' := cell_by q1
                  have q2' := cell_by q2
                  have q4' := cell_by q4
                  have p1' := cell_by p1
                  have p2' := cell_by p2
                  have p3' := cell_by p3
                  have r1' := cell_by r1
                  have r2' := cell_by r2
                  have r3' := cell_by r3
                  have r4' := cell_by r4
                  have a1' := cell_by a1
                  have a2' := cell_by a2
                  have a3' := cell_by a3
                  have b1' := cell_by b1
                  have b2' := cell_by b2
                  have b3' := cell_by b3
                  have b4' := cell_by b4
                  go_wp2_with fail
                  refine wp_region_cutQ 16 (by kernel_rfl) (by kernel_rfl) ?_
                  simp only [List.take_succ_cons, List.take_zero]
                  repeat (go_big_quiet_step (fail))
                  refine wpQuiet_nil ?_
                  intro wq hw'
                  obtain ⟨⟨_, hwq⟩, hw''⟩ := hw'
                  subst hw''
                  simp only [List.drop_succ_cons, List.drop_zero]
                  have M7 := hid ((M.out.step hwq).putA HKA.out hlt true)
                  replace c1 := cell_keep c1 hwq
                  have fz1 := ((M.out.step hwq).k.reg HKA.out hlt).f1
                  have hl1 : g1 < wq.heap.size := World.block_lt_of_cell? _ _ c1
                  obtain ⟨w7, hw7⟩ : ∃ W, W = wq.setCell ⟨g1, i, none⟩ (.bool true) := ⟨_, rfl⟩
                  rw [← hw7] at M7
                  have E7 := hid hw7
                  clear q1 q2 q4 p1 p2 p3 r1 r2 r3 r4 a1 a2 a3 b1 b2 b3 b4 q1' q2' q4' p1' p2' p3' r1' r2' r3' r4' a1' a2' a3' b1' b2' b3' b4' lk lab lbb la1 la2 la3 lb1 lb2 lb3 lb4 c2 c3 c4 f1 f2 f3 f4 l1 l2 l3 l4 hwq hw7 M
                  go_upto_region 8 with fail
                  rw [← E7.out]
                  clear E7 c1 fz1 hl1
                  obtain ⟨q1, q2, q4⟩ := HCK.out w7 M7.out.kx
                  obtain ⟨p1, p2, p3⟩ := HCA.out w7 M7.out.bel
                  obtain ⟨r1, r2, r3, r4⟩ := HCB.out w7 M7.out.bel
                  obtain ⟨a1, a2, a3, b1, b2, b3, b4⟩ := HRWi.out w7 M7.out.bel
                  have lk : kb < w7.heap.size := World.block_lt_of_cell? _ _ q1
                  have lab : ab < w7.heap.size := World.block_lt_of_cell? _ _ p1
                  have lbb : bb < w7.heap.size := World.block_lt_of_cell? _ _ r1
                  have la1 : ga1 < w7.heap.size := World.block_lt_of_cell? _ _ a1
                  have la2 : ga2 < w7.heap.size := World.block_lt_of_cell? _ _ a2
                  have la3 : ga3 < w7.heap.size := World.block_lt_of_cell? _ _ a3
                  have lb1 : gb1 < w7.heap.size := World.block_lt_of_cell? _ _ b1
                  have lb2 : gb2 < w7.heap.size := World.block_lt_of_cell? _ _ b2
                  have lb3 : gb3 < w7.heap.size := World.block_lt_of_cell? _ _ b3
                  have lb4 : gb4 < w7.heap.size := World.block_lt_of_cell? _ _ b4
                  obtain ⟨c1, c2, c3, c4, f1, f2, f3, f4, l1, l2, l3, l4⟩ := M7.out.k.reg HKA.out hlt
                  rw [if_pos rfl] at c1
                  rw [HFB.out] at c2
                  rw [HFZ.out] at c4
                  have q1' := cell_by q1
                  have q2' := cell_by q2
                  have q4' := cell_by q4
                  have p1' := cell_by p1
                  have p2' := cell_by p2
                  have p3' := cell_by p3
                  have r1' := cell_by r1
                  have r2' := cell_by r2
                  have r3' := cell_by r3
                  have r4' := cell_by r4
                  have a1' := cell_by a1
                  have a2' := cell_by a2
                  have a3' := cell_by a3
                  have b1' := cell_by b1
                  have b2' := cell_by b2
                  have b3' := cell_by b3
                  have b4' := cell_by b4
                  have c1' := cell_by c1
                  go_wp2_with fail
                  refine wp_region_cutQ 36 (by kernel_rfl) (by kernel_rfl) ?_
                  simp only [List.take_succ_cons, List.take_zero]
                  repeat (go_big_quiet_step (fail))
                  refine wpQuiet_nil ?_
                  intro wq hw'
                  obtain ⟨⟨_, hwq⟩, hw''⟩ := hw'
                  subst hw''
                  simp only [List.drop_succ_cons, List.drop_zero]
                  have M8 := hid ((M7.out.step hwq).putB HKA.out hlt true)
                  replace c2 := cell_keep c2 hwq
                  have fz1 := ((M7.out.step hwq).k.reg HKA.out hlt).f2
                  have hl1 : g2 < wq.heap.size := World.block_lt_of_cell? _ _ c2
                  obtain ⟨w8, hw8⟩ : ∃ W, W = wq.setCell ⟨g2, i, none⟩ (.bool true) := ⟨_, rfl⟩
                  rw [← hw8] at M8
                  have E8 := hid hw8
                  clear q1 q2 q4 p1 p2 p3 r1 r2 r3 r4 a1 a2 a3 b1 b2 b3 b4 c1 q1' q2' q4' p1' p2' p3' r1' r2' r3' r4' a1' a2' a3' b1' b2' b3' b4' c1' lk lab lbb la1 la2 la3 lb1 lb2 lb3 lb4 c3 c4 f1 f2 f3 f4 l1 l2 l3 l4 hwq hw8 M7
                  go_upto_region 9 with fail
                  rw [← E8.out]
                  clear E8 c2 fz1 hl1
                  obtain ⟨q1, q2, q4⟩ := HCK.out w8 M8.out.kx
                  obtain ⟨p1, p2, p3⟩ := HCA.out w8 M8.out.bel
                  obtain ⟨r1, r2, r3, r4⟩ := HCB.out w8 M8.out.bel
                  obtain ⟨a1, a2, a3, b1, b2, b3, b4⟩ := HRWi.out w8 M8.out.bel
                  have lk : kb < w8.heap.size := World.block_lt_of_cell? _ _ q1
                  have lab : ab < w8.heap.size := World.block_lt_of_cell? _ _ p1
                  have lbb : bb < w8.heap.size := World.block_lt_of_cell? _ _ r1
                  have la1 : ga1 < w8.heap.size := World.block_lt_of_cell? _ _ a1
                  have la2 : ga2 < w8.heap.size := World.block_lt_of_cell? _ _ a2
                  have la3 : ga3 < w8.heap.size := World.block_lt_of_cell? _ _ a3
                  have lb1 : gb1 < w8.heap.size := World.block_lt_of_cell? _ _ b1
                  have lb2 : gb2 < w8.heap.size := World.block_lt_of_cell? _ _ b2
                  have lb3 : gb3 < w8.heap.size := World.block_lt_of_cell? _ _ b3
                  have lb4 : gb4 < w8.heap.size := World.block_lt_of_cell? _ _ b4
                  obtain ⟨c1, c2, c3, c4, f1, f2, f3, f4, l1, l2, l3, l4⟩ := M8.out.k.reg HKA.out hlt
                  rw [if_pos rfl] at c1
                  rw [if_pos rfl] at c2
                  rw [HFZ.out] at c4
                  have q1' := cell_by q1
                  have q2' := cell_by q2
                  have q4' := cell_by q4
                  have p1' := cell_by p1
                  have p2' := cell_by p2
                  have p3' := cell_by p3
                  have r1' := cell_by r1
                  have r2' := cell_by r2
                  have r3' := cell_by r3
                  have r4' := cell_by r4
                  have a1' := cell_by a1
                  have a2' := cell_by a2
                  have a3' := cell_by a3
                  have b1' := cell_by b1
                  have b2' := cell_by b2
                  have b3' := cell_by b3
                  have b4' := cell_by b4
                  have c4' := cell_by c4
                  go_wp2_with fail
                  refine wp_region_quiet_below (by kernel_rfl) (by kernel_rfl) ?_
                  repeat (go_big_quiet_step (fail))
                  refine wpQuiet_nil ?_
                  intro wq hw'
                  obtain ⟨⟨_, hwq⟩, hw''⟩ := hw'
                  subst hw''
                  have M9 := hid (M8.out.step hwq)
                  clear q1 q2 q4 p1 p2 p3 r1 r2 r3 r4 a1 a2 a3 b1 b2 b3 b4 c4 q1' q2' q4' p1' p2' p3' r1' r2' r3' r4' a1' a2' a3' b1' b2' b3' b4' c4' lk lab lbb la1 la2 la3 lb1 lb2 lb3 lb4 c1 c2 c3 f1 f2 f3 f4 l1 l2 l3 l4 hwq M8
                  obtain ⟨q1, q2, q4⟩ := HCK.out wq M9.out.kx
                  have lk : kb < wq.heap.size := World.block_lt_of_cell? _ _ q1
                  obtain ⟨c1, c2, c3, c4, f1, f2, f3, f4, l1, l2, l3, l4⟩ := M9.out.k.reg HKA.out hlt
                  rw [if_pos rfl] at c1
                  have MX := M9.out.congr (A' := fun j => if j = i then (true && true) else fA j) (B' := fun j => if j = i then meetB true true true true na na else fB j) (Z' := fun j => if j = i then meetZ true true z u else fZ j) (fun j => by by_cases e : j = i <;> simp [e]) (fun j => by by_cases e : j = i <;> simp [e, eJ]) (fun j => by by_cases e : j = i <;> simp [e, eZ, HFZ.out]) (fun _ => rfl)
                  have HE := hid (HNEXT.out _ MX)
                  clear MX HNEXT M9 c2 c3 c4 f1 f2 f3 f4
                  go_wp2
                  go_roundw
                  case rel => exact ⟨i + 1, by omega, by go_num, HE⟩
                  case measure => simp [intOf]; omega
              · have hnei : ¬ (na : Int) = (nb : Int) := by omega
                have hbe : ((na : Int) == (nb : Int)) = false := by simpa using hnei
                by_cases hz : u < z
                · have hui : u < z := by assumption
                  have eX : (true && true) = true := by simp
                  have eJ : meetB true true true true na nb = false := by simp [meetB, hne]
                  have eZ : meetZ true true z u = u := by simp [meetZ, hui]
                  obtain ⟨q1, q2, q4⟩ := HCK.out wr M.out.kx
                  obtain ⟨p1, p2, p3⟩ := HCA.out wr M.out.bel
                  obtain ⟨r1, r2, r3, r4⟩ := HCB.out wr M.out.bel
                  obtain ⟨a1, a2, a3, b1, b2, b3, b4⟩ := HRWi.out wr M.out.bel
                  have lk : kb < wr.heap.size := World.block_lt_of_cell? _ _ q1
                  have lab : ab < wr.heap.size := World.block_lt_of_cell? _ _ p1
                  have lbb : bb < wr.heap.size := World.block_lt_of_cell? _ _ r1
                  have la1 : ga1 < wr.heap.size := World.block_lt_of_cell? _ _ a1
                  have la2 : ga2 < wr.heap.size := World.block_lt_of_cell? _ _ a2
                  have la3 : ga3 < wr.heap.size := World.block_lt_of_cell? _ _ a3
                  have lb1 : gb1 < wr.heap.size := World.block_lt_of_cell? _ _ b1
                  have lb2 : gb2 < wr.heap.size := World.block_lt_of_cell? _ _ b2
                  have lb3 : gb3 < wr.heap.size := World.block_lt_of_cell? _ _ b3
                  have lb4 : gb4 < wr.heap.size := World.block_lt_of_cell? _ _ b4
                  obtain ⟨c1, c2, c3, c4, f1, f2, f3, f4, l1, l2, l3, l4⟩ := M.out.k.reg HKA.out hlt
                  rw [HFA.out] at c1
                  rw [HFB.out] at c2
                  rw [HFZ.out] at c4
                  have q1' := cell_by q1
                  have q2' := cell_by q2
                  have q4' := cell_by q4
                  have p1' := cell_by p1
                  have p2' := cell_by p2
                  have p3' := cell_by p3
                  have r1' := cell_by r1
                  have r2' := cell_by r2
                  have r3' := cell_by r3
                  have r4' := cell_by r4
                  have a1' := cell_by a1
                  have a2' := cell_by a2
                  have a3' := cell_by a3
                  have b1' := cell_by b1
                  have b2' := cell_by b2
                  have b3' := cell_by b3
                  have b4' := cell_by b4
                  go_wp2_with fail
                  refine wp_region_cutQ 16 (by kernel_rfl) (by kernel_rfl) ?_
                  simp only [List.take_succ_cons, List.take_zero]
                  repeat (go_big_quiet_step (fail))
                  refine wpQuiet_nil ?_
                  intro wq hw'
                  obtain ⟨⟨_, hwq⟩, hw''⟩ := hw'
                  subst hw''
                  simp only [List.drop_succ_cons, List.drop_zero]
                  have M7 := hid ((M.out.step hwq).putA HKA.out hlt true)
                  replace c1 := cell_keep c1 hwq
                  have fz1 := ((M.out.step hwq).k.reg HKA.out hlt).f1
                  have hl1 : g1 < wq.heap.size := World.block_lt_of_cell? _ _ c1
                  obtain ⟨w7, hw7⟩ : ∃ W, W = wq.setCell ⟨g1, i, none⟩ (.bool true) := ⟨_, rfl⟩
                  rw [← hw7] at M7
                  have E7 := hid hw7
                  clear q1 q2 q4 p1 p2 p3 r1 r2 r3 r4 a1 a2 a3 b1 b2 b3 b4 q1' q2' q4' p1' p2' p3' r1' r2' r3' r4' a1' a2' a3' b1' b2' b3' b4' lk lab lbb la1 la2 la3 lb1 lb2 lb3 lb4 c2 c3 c4 f1 f2 f3 f4 l1 l2 l3 l4 hwq hw7 M
                  go_upto_region 8 with fail
                  rw [← E7.out]
                  clear E7 c1 fz1 hl1
                  obtain ⟨q1, q2, q4⟩ := HCK.out w7 M7.out.kx
                  obtain ⟨p1, p2, p3⟩ := HCA.out w7 M7.out.bel
                  obtain ⟨r1, r2, r3, r4⟩ := HCB.out w7 M7.out.bel
                  obtain ⟨a1, a2, a3, b1, b2, b3, b4⟩ := HRWi.out w7 M7.out.bel
                  have lk : kb < w7.heap.size := World.block_lt_of_cell? _ _ q1
                  have lab : ab < w7.heap.size := World.block_lt_of_cell? _ _ p1
                  have lbb : bb < w7.heap.size := World.block_lt_of_cell? _ _ r1
                  have la1 : ga1 < w7.heap.size := World.block_lt_of_cell? _ _ a1
                  have la2 : ga2 < w7.heap.size := World.block_lt_of_cell? _ _ a2
                  have la3 : ga3 < w7.heap.size := World.block_lt_of_cell? _ _ a3
                  have lb1 : gb1 < w7.heap.size := World.block_lt_of_cell? _ _ b1
                  have lb2 : gb2 < w7.heap.size := World.block_lt_of_cell? _ _ b2
                  have lb3 : gb3 < w7.heap.size := World.block_lt_of_cell? _ _ b3
                  have lb4 : gb4 < w7.heap.size := World.block_lt_of_cell? _ _ b4
                  obtain ⟨c1, c2, c3, c4, f1, f2, f3, f4, l1, l2, l3, l4⟩ := M7.out.k.reg HKA.out hlt
                  rw [if_pos rfl] at c1
                  rw [HFB.out] at c2
                  rw [HFZ.out] at c4
                  have q1' := cell_by q1
                  have q2' := cell_by q2
                  have q4' := cell_by q4
                  have p1' := cell_by p1
                  have p2' := cell_by p2
                  have p3' := cell_by p3
                  have r1' := cell_by r1
                  have r2' := cell_by r2
                  have r3' := cell_by r3
                  have r4' := cell_by r4
                  have a1' := cell_by a1
                  have a2' := cell_by a2
                  have a3' := cell_by a3
                  have b1' := cell_by b1
                  have b2' := cell_by b2
                  have b3' := cell_by b3
                  have b4' := cell_by b4
                  have c1' := cell_by c1
                  go_wp2_with fail
                  refine wp_region_cutQ 36 (by kernel_rfl) (by kernel_rfl) ?_
                  simp only [List.take_succ_cons, List.take_zero]
                  repeat (go_big_quiet_step (fail))
                  refine wpQuiet_nil ?_
                  intro wq hw'
                  obtain ⟨⟨_, hwq⟩, hw''⟩ := hw'
                  subst hw''
                  simp only [List.drop_succ_cons, List.drop_zero]
                  have M8 := hid ((M7.out.step hwq).putB HKA.out hlt false)
                  replace c2 := cell_keep c2 hwq
                  have fz1 := ((M7.out.step hwq).k.reg HKA.out hlt).f2
                  have hl1 : g2 < wq.heap.size := World.block_lt_of_cell? _ _ c2
                  obtain ⟨w8, hw8⟩ : ∃ W, W = wq.setCell ⟨g2, i, none⟩ (.bool false) := ⟨_, rfl⟩
                  rw [← hw8] at M8
                  have E8 := hid hw8
                  clear q1 q2 q4 p1 p2 p3 r1 r2 r3 r4 a1 a2 a3 b1 b2 b3 b4 c1 q1' q2' q4' p1' p2' p3' r1' r2' r3' r4' a1' a2' a3' b1' b2' b3' b4' c1' lk lab lbb la1 la2 la3 lb1 lb2 lb3 lb4 c3 c4 f1 f2 f3 f4 l1 l2 l3 l4 hwq hw8 M7
                  go_upto_region 9 with fail
                  rw [← E8.out]
                  clear E8 c2 fz1 hl1
                  obtain ⟨q1, q2, q4⟩ := HCK.out w8 M8.out.kx
                  obtain ⟨p1, p2, p3⟩ := HCA.out w8 M8.out.bel
                  obtain ⟨r1, r2, r3, r4⟩ := HCB.out w8 M8.out.bel
                  obtain ⟨a1, a2, a3, b1, b2, b3, b4⟩ := HRWi.out w8 M8.out.bel
                  have lk : kb < w8.heap.size := World.block_lt_of_cell? _ _ q1
                  have lab : ab < w8.heap.size := World.block_lt_of_cell? _ _ p1
                  have lbb : bb < w8.heap.size := World.block_lt_of_cell? _ _ r1
                  have la1 : ga1 < w8.heap.size := World.block_lt_of_cell? _ _ a1
                  have la2 : ga2 < w8.heap.size := World.block_lt_of_cell? _ _ a2
                  have la3 : ga3 < w8.heap.size := World.block_lt_of_cell? _ _ a3
                  have lb1 : gb1 < w8.heap.size := World.block_lt_of_cell? _ _ b1
                  have lb2 : gb2 < w8.heap.size := World.block_lt_of_cell? _ _ b2
                  have lb3 : gb3 < w8.heap.size := World.block_lt_of_cell? _ _ b3
                  have lb4 : gb4 < w8.heap.size := World.block_lt_of_cell? _ _ b4
                  obtain ⟨c1, c2, c3, c4, f1, f2, f3, f4, l1, l2, l3, l4⟩ := M8.out.k.reg HKA.out hlt
                  rw [if_pos rfl] at c1
                  rw [if_pos rfl] at c2
                  rw [HFZ.out] at c4
                  have q1' := cell_by q1
                  have q2' := cell_by q2
                  have q4' := cell_by q4
                  have p1' := cell_by p1
                  have p2' := cell_by p2
                  have p3' := cell_by p3
                  have r1' := cell_by r1
                  have r2' := cell_by r2
                  have r3' := cell_by r3
                  have r4' := cell_by r4
                  have a1' := cell_by a1
                  have a2' := cell_by a2
                  have a3' := cell_by a3
                  have b1' := cell_by b1
                  have b2' := cell_by b2
                  have b3' := cell_by b3
                  have b4' := cell_by b4
                  have c4' := cell_by c4
                  go_wp2_with fail
                  refine wp_region_quiet_below (by kernel_rfl) (by kernel_rfl) ?_
                  repeat (go_big_quiet_step (fail))
                  refine wpQuiet_nil ?_
                  intro wq hw'
                  obtain ⟨⟨_, hwq⟩, hw''⟩ := hw'
                  subst hw''
                  have M9 := hid (M8.out.step hwq)
                  clear q1 q2 q4 p1 p2 p3 r1 r2 r3 r4 a1 a2 a3 b1 b2 b3 b4 c4 q1' q2' q4' p1' p2' p3' r1' r2' r3' r4' a1' a2' a3' b1' b2' b3' b4' c4' lk lab lbb la1 la2 la3 lb1 lb2 lb3 lb4 c1 c2 c3 f1 f2 f3 f4 l1 l2 l3 l4 hwq M8
                  obtain ⟨q1, q2, q4⟩ := HCK.out wq M9.out.kx
                  obtain ⟨p1, p2, p3⟩ := HCA.out wq M9.out.bel
                  obtain ⟨r1, r2, r3, r4⟩ := HCB.out wq M9.out.bel
                  obtain ⟨a1, a2, a3, b1, b2, b3, b4⟩ := HRWi.out wq M9.out.bel
                  have lk : kb < wq.heap.size := World.block_lt_of_cell? _ _ q1
                  have lab : ab < wq.heap.size := World.block_lt_of_cell? _ _ p1
                  have lbb : bb < wq.heap.size := World.block_lt_of_cell? _ _ r1
                  have la1 : ga1 < wq.heap.size := World.block_lt_of_cell? _ _ a1
                  have la2 : ga2 < wq.heap.size := World.block_lt_of_cell? _ _ a2
                  have la3 : ga3 < wq.heap.size := World.block_lt_of_cell? _ _ a3
                  have lb1 : gb1 < wq.heap.size := World.block_lt_of_cell? _ _ b1
                  have lb2 : gb2 < wq.heap.size := World.block_lt_of_cell? _ _ b2
                  have lb3 : gb3 < wq.heap.size := World.block_lt_of_cell? _ _ b3
                  have lb4 : gb4 < wq.heap.size := World.block_lt_of_cell? _ _ b4
                  obtain ⟨c1, c2, c3, c4, f1, f2, f3, f4, l1, l2, l3, l4⟩ := M9.out.k.reg HKA.out hlt
                  rw [if_pos rfl] at c1
                  rw [if_pos rfl] at c2
                  rw [HFZ.out] at c4
                  have q1' := cell_by q1
                  have q2' := cell_by q2
                  have q4' := cell_by q4
                  have p1' := cell_by p1
                  have p2' := cell_by p2
                  have p3' := cell_by p3
                  have r1' := cell_by r1
                  have r2' := cell_by r2
                  have r3' := cell_by r3
                  have r4' := cell_by r4
                  have a1' := cell_by a1
                  have a2' := cell_by a2
                  have a3' := cell_by a3
                  have b1' := cell_by b1
                  have b2' := cell_by b2
                  have b3' := cell_by b3
                  have b4' := cell_by b4
                  go_wp2_with fail
                  refine wp_region_cutQ 9 (by kernel_rfl) (by kernel_rfl) ?_
                  simp only [List.take_succ_cons, List.take_zero]
                  repeat (go_big_quiet_step (fail))
                  refine wpQuiet_nil ?_
                  intro wp hw'
                  obtain ⟨⟨_, hwp⟩, hw''⟩ := hw'
                  subst hw''
                  simp only [List.drop_succ_cons, List.drop_zero]
                  have M10 := hid ((M9.out.step hwp).putZ HKA.out hlt u)
                  replace c4 := cell_keep c4 hwp
                  have fz1 := ((M9.out.step hwp).k.reg HKA.out hlt).f4
                  have hl1 : g4 < wp.heap.size := World.block_lt_of_cell? _ _ c4
                  obtain ⟨w10, hw10⟩ : ∃ W, W = wp.setCell ⟨g4, i, none⟩ (.int .i64 u) := ⟨_, rfl⟩
                  rw [← hw10] at M10
                  have E10 := hid hw10
                  clear q1 q2 q4 p1 p2 p3 r1 r2 r3 r4 a1 a2 a3 b1 b2 b3 b4 q1' q2' q4' p1' p2' p3' r1' r2' r3' r4' a1' a2' a3' b1' b2' b3' b4' lk lab lbb la1 la2 la3 lb1 lb2 lb3 lb4 c1 c2 c3 f1 f2 f3 f4 l1 l2 l3 l4 hwp hw10 M9
                  go_upto_region 11 with fail
                  rw [← E10.out]
                  clear E10 c4 fz1 hl1
                  obtain ⟨q1, q2, q4⟩ := HCK.out w10 M10.out.kx
                  have lk : kb < w10.heap.size := World.block_lt_of_cell? _ _ q1
                  obtain ⟨c1, c2, c3, c4, f1, f2, f3, f4, l1, l2, l3, l4⟩ := M10.out.k.reg HKA.out hlt
                  rw [if_pos rfl] at c1
                  have MX := M10.out.congr (A' := fun j => if j = i then (true && true) else fA j) (B' := fun j => if j = i then meetB true true true true na nb else fB j) (Z' := fun j => if j = i then meetZ true true z u else fZ j) (fun j => by by_cases e : j = i <;> simp [e]) (fun j => by by_cases e : j = i <;> simp [e, eJ]) (fun j => by by_cases e : j = i <;> simp [e, eZ]) (fun _ => rfl)
                  have HE := hid (HNEXT.out _ MX)
                  clear MX HNEXT M10 c2 c3 c4 f1 f2 f3 f4
                  go_wp2
                  go_roundw
                  case rel => exact ⟨i + 1, by omega, by go_num, HE⟩
                  case measure => simp [intOf]; omega
                · have hui : ¬ u < z := by assumption
                  have eX : (true && true) = true := by simp
                  have eJ : meetB true true true true na nb = false := by simp [meetB, hne]
                  have eZ : meetZ true true z u = z := by simp [meetZ, hui]
                  obtain ⟨q1, q2, q4⟩ := HCK.out wr M.out.kx
                  obtain ⟨p1, p2, p3⟩ := HCA.out wr M.out.bel
                  obtain ⟨r1, r2, r3, r4⟩ := HCB.out wr M.out.bel
                  obtain ⟨a1, a2, a3, b1, b2, b3, b4⟩ := HRWi.out wr M.out.bel
                  have lk : kb < wr.heap.size := World.block_lt_of_cell? _ _ q1
                  have lab : ab < wr.heap.size := World.block_lt_of_cell? _ _ p1
                  have lbb : bb < wr.heap.size := World.block_lt_of_cell? _ _ r1
                  have la1 : ga1 < wr.heap.size := World.block_lt_of_cell? _ _ a1
                  have la2 : ga2 < wr.heap.size := World.block_lt_of_cell? _ _ a2
                  have la3 : ga3 < wr.heap.size := World.block_lt_of_cell? _ _ a3
                  have lb1 : gb1 < wr.heap.size := World.block_lt_of_cell? _ _ b1
                  have lb2 : gb2 < wr.heap.size := World.block_lt_of_cell? _ _ b2
                  have lb3 : gb3 < wr.heap.size := World.block_lt_of_cell? _ _ b3
                  have lb4 : gb4 < wr.heap.size := World.block_lt_of_cell? _ _ b4
                  obtain ⟨c1, c2, c3, c4, f1, f2, f3, f4, l1, l2, l3, l4⟩ := M.out.k.reg HKA.out hlt
                  rw [HFA.out] at c1
                  rw [HFB.out] at c2
                  rw [HFZ.out] at c4
                  have q1' := cell_by q1
                  have q2' := cell_by q2
                  have q4' := cell_by q4
                  have p1' := cell_by p1
                  have p2' := cell_by p2
                  have p3' := cell_by p3
                  have r1' := cell_by r1
                  have r2' := cell_by r2
                  have r3' := cell_by r3
                  have r4' := cell_by r4
                  have a1' := cell_by a1
                  have a2' := cell_by a2
                  have a3' := cell_by a3
                  have b1' := cell_by b1
                  have b2' := cell_by b2
                  have b3' := cell_by b3
                  have b4' := cell_by b4
                  go_wp2_with fail
                  refine wp_region_cutQ 16 (by kernel_rfl) (by kernel_rfl) ?_
                  simp only [List.take_succ_cons, List.take_zero]
                  repeat (go_big_quiet_step (fail))
                  refine wpQuiet_nil ?_
                  intro wq hw'
                  obtain ⟨⟨_, hwq⟩, hw''⟩ := hw'
                  subst hw''
                  simp only [List.drop_succ_cons, List.drop_zero]
                  have M7 := hid ((M.out.step hwq).putA HKA.out hlt true)
                  replace c1 := cell_keep c1 hwq
                  have fz1 := ((M.out.step hwq).k.reg HKA.out hlt).f1
                  have hl1 : g1 < wq.heap.size := World.block_lt_of_cell? _ _ c1
                  obtain ⟨w7, hw7⟩ : ∃ W, W = wq.setCell ⟨g1, i, none⟩ (.bool true) := ⟨_, rfl⟩
                  rw [← hw7] at M7
                  have E7 := hid hw7
                  clear q1 q2 q4 p1 p2 p3 r1 r2 r3 r4 a1 a2 a3 b1 b2 b3 b4 q1' q2' q4' p1' p2' p3' r1' r2' r3' r4' a1' a2' a3' b1' b2' b3' b4' lk lab lbb la1 la2 la3 lb1 lb2 lb3 lb4 c2 c3 c4 f1 f2 f3 f4 l1 l2 l3 l4 hwq hw7 M
                  go_upto_region 8 with fail
                  rw [← E7.out]
                  clear E7 c1 fz1 hl1
                  obtain ⟨q1, q2, q4⟩ := HCK.out w7 M7.out.kx
                  obtain ⟨p1, p2, p3⟩ := HCA.out w7 M7.out.bel
                  obtain ⟨r1, r2, r3, r4⟩ := HCB.out w7 M7.out.bel
                  obtain ⟨a1, a2, a3, b1, b2, b3, b4⟩ := HRWi.out w7 M7.out.bel
                  have lk : kb < w7.heap.size := World.block_lt_of_cell? _ _ q1
                  have lab : ab < w7.heap.size := World.block_lt_of_cell? _ _ p1
                  have lbb : bb < w7.heap.size := World.block_lt_of_cell? _ _ r1
                  have la1 : ga1 < w7.heap.size := World.block_lt_of_cell? _ _ a1
                  have la2 : ga2 < w7.heap.size := World.block_lt_of_cell? _ _ a2
                  have la3 : ga3 < w7.heap.size := World.block_lt_of_cell? _ _ a3
                  have lb1 : gb1 < w7.heap.size := World.block_lt_of_cell? _ _ b1
                  have lb2 : gb2 < w7.heap.size := World.block_lt_of_cell? _ _ b2
                  have lb3 : gb3 < w7.heap.size := World.block_lt_of_cell? _ _ b3
                  have lb4 : gb4 < w7.heap.size := World.block_lt_of_cell? _ _ b4
                  obtain ⟨c1, c2, c3, c4, f1, f2, f3, f4, l1, l2, l3, l4⟩ := M7.out.k.reg HKA.out hlt
                  rw [if_pos rfl] at c1
                  rw [HFB.out] at c2
                  rw [HFZ.out] at c4
                  have q1' := cell_by q1
                  have q2' := cell_by q2
                  have q4' := cell_by q4
                  have p1' := cell_by p1
                  have p2' := cell_by p2
                  have p3' := cell_by p3
                  have r1' := cell_by r1
                  have r2' := cell_by r2
                  have r3' := cell_by r3
                  have r4' := cell_by r4
                  have a1' := cell_by a1
                  have a2' := cell_by a2
                  have a3' := cell_by a3
                  have b1' := cell_by b1
                  have b2' := cell_by b2
                  have b3' := cell_by b3
                  have b4' := cell_by b4
                  have c1' := cell_by c1
                  go_wp2_with fail
                  refine wp_region_cutQ 36 (by kernel_rfl) (by kernel_rfl) ?_
                  simp only [List.take_succ_cons, List.take_zero]
                  repeat (go_big_quiet_step (fail))
                  refine wpQuiet_nil ?_
                  intro wq hw'
                  obtain ⟨⟨_, hwq⟩, hw''⟩ := hw'
                  subst hw''
                  simp only [List.drop_succ_cons, List.drop_zero]
                  have M8 := hid ((M7.out.step hwq).putB HKA.out hlt false)
                  replace c2 := cell_keep c2 hwq
                  have fz1 := ((M7.out.step hwq).k.reg HKA.out hlt).f2
                  have hl1 : g2 < wq.heap.size := World.block_lt_of_cell? _ _ c2
                  obtain ⟨w8, hw8⟩ : ∃ W, W = wq.setCell ⟨g2, i, none⟩ (.bool false) := ⟨_, rfl⟩
                  rw [← hw8] at M8
                  have E8 := hid hw8
                  clear q1 q2 q4 p1 p2 p3 r1 r2 r3 r4 a1 a2 a3 b1 b2 b3 b4 c1 q1' q2' q4' p1' p2' p3' r1' r2' r3' r4' a1' a2' a3' b1' b2' b3' b4' c1' lk lab lbb la1 la2 la3 lb1 lb2 lb3 lb4 c3 c4 f1 f2 f3 f4 l1 l2 l3 l4 hwq hw8 M7
                  go_upto_region 9 with fail
                  rw [← E8.out]
                  clear E8 c2 fz1 hl1
                  obtain ⟨q1, q2, q4⟩ := HCK.out w8 M8.out.kx
                  obtain ⟨p1, p2, p3⟩ := HCA.out w8 M8.out.bel
                  obtain ⟨r1, r2, r3, r4⟩ := HCB.out w8 M8.out.bel
                  obtain ⟨a1, a2, a3, b1, b2, b3, b4⟩ := HRWi.out w8 M8.out.bel
                  have lk : kb < w8.heap.size := World.block_lt_of_cell? _ _ q1
                  have lab : ab < w8.heap.size := World.block_lt_of_cell? _ _ p1
                  have lbb : bb < w8.heap.size := World.block_lt_of_cell? _ _ r1
                  have la1 : ga1 < w8.heap.size := World.block_lt_of_cell? _ _ a1
                  have la2 : ga2 < w8.heap.size := World.block_lt_of_cell? _ _ a2
                  have la3 : ga3 < w8.heap.size := World.block_lt_of_cell? _ _ a3
                  have lb1 : gb1 < w8.heap.size := World.block_lt_of_cell? _ _ b1
                  have lb2 : gb2 < w8.heap.size := World.block_lt_of_cell? _ _ b2
                  have lb3 : gb3 < w8.heap.size := World.block_lt_of_cell? _ _ b3
                  have lb4 : gb4 < w8.heap.size := World.block_lt_of_cell? _ _ b4
                  obtain ⟨c1, c2, c3, c4, f1, f2, f3, f4, l1, l2, l3, l4⟩ := M8.out.k.reg HKA.out hlt
                  rw [if_pos rfl] at c1
                  rw [if_pos rfl] at c2
                  rw [HFZ.out] at c4
                  have q1' := cell_by q1
                  have q2' := cell_by q2
                  have q4' := cell_by q4
                  have p1' := cell_by p1
                  have p2' := cell_by p2
                  have p3' := cell_by p3
                  have r1' := cell_by r1
                  have r2' := cell_by r2
                  have r3' := cell_by r3
                  have r4' := cell_by r4
                  have a1' := cell_by a1
                  have a2' := cell_by a2
                  have a3' := cell_by a3
                  have b1' := cell_by b1
                  have b2' := cell_by b2
                  have b3' := cell_by b3
                  have b4' := cell_by b4
                  have c4' := cell_by c4
                  go_wp2_with fail
                  refine wp_region_quiet_below (by kernel_rfl) (by kernel_rfl) ?_
                  repeat (go_big_quiet_step (fail))
                  refine wpQuiet_nil ?_
                  intro wq hw'
                  obtain ⟨⟨_, hwq⟩, hw''⟩ := hw'
                  subst hw''
                  have M9 := hid (M8.out.step hwq)
                  clear q1 q2 q4 p1 p2 p3 r1 r2 r3 r4 a1 a2 a3 b1 b2 b3 b4 c4 q1' q2' q4' p1' p2' p3' r1' r2' r3' r4' a1' a2' a3' b1' b2' b3' b4' c4' lk lab lbb la1 la2 la3 lb1 lb2 lb3 lb4 c1 c2 c3 f1 f2 f3 f4 l1 l2 l3 l4 hwq M8
                  obtain ⟨q1, q2, q4⟩ := HCK.out wq M9.out.kx
                  have lk : kb < wq.heap.size := World.block_lt_of_cell? _ _ q1
                  obtain ⟨c1, c2, c3, c4, f1, f2, f3, f4, l1, l2, l3, l4⟩ := M9.out.k.reg HKA.out hlt
                  rw [if_pos rfl] at c1
                  have MX := M9.out.congr (A' := fun j => if j = i then (true && true) else fA j) (B' := fun j => if j = i then meetB true true true true na nb else fB j) (Z' := fun j => if j = i then meetZ true true z u else fZ j) (fun j => by by_cases e : j = i <;> simp [e]) (fun j => by by_cases e : j = i <;> simp [e, eJ]) (fun j => by by_cases e : j = i <;> simp [e, eZ, HFZ.out]) (fun _ => rfl)
                  have HE := hid (HNEXT.out _ MX)
                  clear MX HNEXT M9 c2 c3 c4 f1 f2 f3 f4
                  go_wp2
                  go_roundw
                  case rel => exact ⟨i + 1, by omega, by go_num, HE⟩
                  case measure => simp [intOf]; omega
    · obtain rfl : i = 10 := by omega
      have M0 : Hid (MtAt W3 S q Na kb rb (fun j => if j < 10 then ((sa.join sb).reg j).set else (sa.reg j).set) (fun j => if j < 10 then ((sa.join sb).reg j).just.isSome else (sa.reg j).just.isSome) (fun j => if j < 10 then roomZ ((sa.join sb).reg j).room else roomZ (sa.reg j).room) (fun j => if j < 0 then (sa.slot j && sb.slot j) else sa.slot j) wr) := M.out.congr (fun _ => rfl) (fun _ => rfl) (fun _ => rfl) (fun j => by simp)
      have HSN : Hid (q.sl.n = S ∧ qa.sl.n = S ∧ qb.sl.n = S) := ⟨M.out.k.sl.1, HA3.out.sl.1, HBB3.out.sl.1⟩
      clear M hlt hi HRW HCA HCB HCK
      go_wp2
      go_loopw [7] (fun v wr => ∃ i : Nat, i ≤ S ∧ v = .int .i64 i ∧ Hid (MtAt W3 S q Na kb rb (fun j => if j < 10 then ((sa.join sb).reg j).set else (sa.reg j).set) (fun j => if j < 10 then ((sa.join sb).reg j).just.isSome else (sa.reg j).just.isSome) (fun j => if j < 10 then roomZ ((sa.join sb).reg j).room else roomZ (sa.reg j).room) (fun j => if j < i then (sa.slot j && sb.slot j) else sa.slot j) wr)) (fun v _ => S - (intOf v).toNat)
      case atStart => exact ⟨0, Nat.zero_le _, rfl, M0⟩
      case round =>
        obtain ⟨i, hi, rfl, M⟩ := hrel
        clear M0
        have k5 : wr.cell? ⟨kb, 5, none⟩ = some (.slice q.sl.a q.sl.n q.sl.c) := M.out.kx.cell 5
        have hlk := M.out.kx.lt
        rw [HSN.out.1] at k5
        by_cases hlt : i < S
        · have hii : (i : Int) < (S : Int) := by omega
          obtain ⟨gs, es, bs, _⟩ := M.out.k.sl.block (by omega)
          obtain ⟨ga, oa, ea, na, ca⟩ := HA3.out.sl.pos (by omega)
          obtain ⟨gb, ob, eb, nb, cb⟩ := HBB3.out.sl.pos (by omega)
          have hgs := M.out.k.sl.at es hlt
          have c1 : wr.cell? ⟨gs, i, none⟩ = some (.bool (sa.slot i)) := by have := hgs.1; simpa using this
          have a5 : wr.cell? ⟨ab, 5, none⟩ = some (.slice qa.sl.a qa.sl.n qa.sl.c) := (HXA.out.step M.out.bel).cell 5
          have b5 : wr.cell? ⟨bb, 5, none⟩ = some (.slice qb.sl.a qb.sl.n qb.sl.c) := (HXB.out.step M.out.bel).cell 5
          rw [ea, na] at a5
          rw [eb, nb] at b5
          rw [es] at k5
          have ra := cell_keep (ca i hlt) M.out.bel
          have rbc := cell_keep (cb i hlt) M.out.bel
          have la : ab < wr.heap.size := World.block_lt_of_cell? _ _ a5
          have lb : bb < wr.heap.size := World.block_lt_of_cell? _ _ b5
          have lra : ga < wr.heap.size := World.block_lt_of_cell? _ _ ra
          have lrb : gb < wr.heap.size := World.block_lt_of_cell? _ _ rbc
          have HNX : Hid (∀ wq, Below wr.heap.size wr wq → MtAt W3 S q Na kb rb (fun j => if j < 10 then ((sa.join sb).reg j).set else (sa.reg j).set) (fun j => if j < 10 then ((sa.join sb).reg j).just.isSome else (sa.reg j).just.isSome) (fun j => if j < 10 then roomZ ((sa.join sb).reg j).room else roomZ (sa.reg j).room) (fun j => if j < i + 1 then (sa.slot j && sb.slot j) else sa.slot j) (wq.setCell ⟨gs, i, none⟩ (.bool (sa.slot i && sb.slot i))) ∧ wq.frozen? ⟨gs, i, none⟩ = false) := fun wq hq => by
            have m := M.out.step hq
            refine ⟨⟨(m.k.putL es hlt (sa.slot i && sb.slot i)).congr (fun _ => rfl) (fun _ => rfl) (fun _ => rfl) (fun j => ?_), m.kx.far (own_ne_box m.k.sl (by omega) es m.kx (by decide)) _ _, m.rx.far (own_ne_box m.k.sl (by omega) es m.rx (by decide)) _ _, hput1 m.bel (m.k.lo gs (.inr (.inr (.inr (.inr bs))))).1 _ _⟩, (m.k.sl.at es hlt).2.1⟩
            by_cases e : j = i
            · subst e; simp
            · by_cases e2 : j < i
              · have : j < i + 1 := by omega
                simp [e, e2, this]
              · have : ¬ j < i + 1 := by omega
                simp [e, e2, this]
          have k5' := cell_by k5
          have a5' := cell_by a5
          have b5' := cell_by b5
          have ra' := cell_by ra
          have rbc' := cell_by rbc
          clear M hgs ca cb ea eb es bs na nb
          generalize sa.slot i = x at *
          generalize sb.slot i = y at *
          cases x
          all_goals
            go_wp2_with fail
            refine wp_region_cutQ 16 (by kernel_rfl) (by kernel_rfl) ?_
            simp only [List.take_succ_cons, List.take_zero]
            repeat (go_big_quiet_step (fail))
            refine wpQuiet_nil ?_
            intro wq hw'
            obtain ⟨⟨_, hwq⟩, hw''⟩ := hw'
            subst hw''
            simp only [List.drop_succ_cons, List.drop_zero]
            obtain ⟨hm, fzq⟩ := HNX.out wq hwq
            replace c1 := cell_keep c1 hwq
            have hlq : gs < wq.heap.size := World.block_lt_of_cell? _ _ c1
            have HE := hid hm
            clear hm hwq HNX k5 a5 b5 ra rbc k5' a5' b5' ra' rbc' hlk la lb lra lrb
            go_wp2
            go_roundw
            case rel => exact ⟨i + 1, by omega, by go_num, HE⟩
            case measure => simp [intOf]; omega
        · obtain rfl : i = S := by omega
          have hki : ¬ (i : Int) < (i : Int) := by omega
          have hbx := M.out.kx
          have k0 : wr.cell? ⟨kb, 0, none⟩ = some (.bool true) := hbx.cell 0
          have k1 : wr.cell? ⟨kb, 1, none⟩ = some (.slice q.st.a q.st.n q.st.c) := hbx.cell 1
          have k2 : wr.cell? ⟨kb, 2, none⟩ = some (.slice q.ju.a q.ju.n q.ju.c) := hbx.cell 2
          have k3 : wr.cell? ⟨kb, 3, none⟩ = some (.slice q.nu.a q.nu.n q.nu.c) := hbx.cell 3
          have k4 : wr.cell? ⟨kb, 4, none⟩ = some (.slice q.ro.a q.ro.n q.ro.c) := hbx.cell 4
          have hxr := M.out.rx
          have x0 : wr.cell? ⟨rb, 0, none⟩ = some (.bool false) := hxr.cell 0
          have x1 : wr.cell? ⟨rb, 1, none⟩ = some (.slice none 0 0) := hxr.cell 1
          have x2 : wr.cell? ⟨rb, 2, none⟩ = some (.slice none 0 0) := hxr.cell 2
          have x3 : wr.cell? ⟨rb, 3, none⟩ = some (.slice none 0 0) := hxr.cell 3
          have x4 : wr.cell? ⟨rb, 4, none⟩ = some (.slice none 0 0) := hxr.cell 4
          have x5 : wr.cell? ⟨rb, 5, none⟩ = some (.slice none 0 0) := hxr.cell 5
          have z0 := hxr.fz 0
          have z1 := hxr.fz 1
          have z2 := hxr.fz 2
          have z3 := hxr.fz 3
          have z4 := hxr.fz 4
          have z5 := hxr.fz 5
          have hlr := hxr.lt
          have hkr : ¬ kb = rb := by have := HKB.out; have := HRB.out.2; omega
          have hrk : ¬ rb = kb := by have := HKB.out; have := HRB.out.2; omega
          have hsl : q.sl.n = i := HSN.out.1
          have HE : Hid (∀ u0 u1 u2 u3 u4 u5, OwnKIs i true (sa.join sb) Na w (.returned (KV.v true q)) ((((((wr.setCell ⟨rb, 0, none⟩ u0).setCell ⟨rb, 1, none⟩ u1).setCell ⟨rb, 2, none⟩ u2).setCell ⟨rb, 3, none⟩ u3).setCell ⟨rb, 4, none⟩ u4).setCell ⟨rb, 5, none⟩ u5)) := fun u0 u1 u2 u3 u4 u5 => by
            have c1 := BoxC.put hxr 0 u0
            have c2 := BoxC.put c1 1 u1
            have c3 := BoxC.put c2 2 u2
            have c4 := BoxC.put c3 3 u3
            have c5 := BoxC.put c4 4 u4
            have hw := HB.out.size
            have hk := M.out.k
            have f1 : OwnF wr 4 q.st 10 (fun j => .bool ((sa.join sb).reg j).set) := hk.st.same (fun j hj => by simp [hj])
            have f2 : OwnF wr 4 q.ju 10 (fun j => .bool ((sa.join sb).reg j).just.isSome) := hk.ju.same (fun j hj => by simp [hj])
            have f4 : OwnF wr 3 q.ro 10 (fun j => .int .i64 (roomZ ((sa.join sb).reg j).room)) := hk.ro.same (fun j hj => by simp [hj])
            have f5 : OwnF wr 4 q.sl i (fun j => .bool ((sa.join sb).slot j)) := hk.sl.same (fun j hj => by simp [hj, SD.join])
            have hk' : KRaw w.heap.size i q (fun j => ((sa.join sb).reg j).set) (fun j => ((sa.join sb).reg j).just.isSome) Na (fun j => roomZ ((sa.join sb).reg j).room) (sa.join sb).slot wr := ⟨f1, f2, hk.nu, f4, f5, hk.a1, hk.a2, fun g hg => ⟨Nat.le_trans hw (hk.lo g hg).1, (hk.lo g hg).2⟩⟩
            refine ⟨q, rfl, ⟨(((((hk'.off hxr 0 u0).off c1 1 u1).off c2 2 u2).off c3 3 u3).off c4 4 u4).off c5 5 u5, fun j hj => ⟨(HA3.out.ok j hj).1, fun n hn => ?_⟩⟩, hput1 (hput1 (hput1 (hput1 (hput1 (hput1 (bl_step HB.out M.out.bel) HRB.out.1 _ _) HRB.out.1 _ _) HRB.out.1 _ _) HRB.out.1 _ _) HRB.out.1 _ _) HRB.out.1 _ _⟩
            have hn' : sameO (sa.reg j).just (sb.reg j).just = some n := hn
            unfold sameO at hn'
            split at hn'
            · exact (HA3.out.ok j hj).2 n hn'
            · cases hn'
          clear hbx M hxr
          go_wp2
          exact bodyPost_ret (v := KV.v true q) (by simp [results, Try.results17, go_sem, *]) rfl (HE.out _ _ _ _ _ _)
end Go.Proofs.Ytmohffibkpecpaa
