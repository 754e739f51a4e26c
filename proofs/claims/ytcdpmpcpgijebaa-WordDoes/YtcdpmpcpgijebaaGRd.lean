/- The reader of programs: numbers. -/
import Derived.Test.YtcdpmpcpgijebaaGWr2
namespace Go.Proofs.Ytcdpmpcpgijebaa
open Go.RowKit

/-- a number out of bytes, the upper first -/
def numB (l : List Int) : Nat := l.foldl (fun n x => n * 256 + x.toNat) 0

theorem numB_snoc (l : List Int) (x : Int) : numB (l ++ [x]) = numB l * 256 + x.toNat := by simp [numB]

theorem fold_lt {l : List Int} (h : GByt l) : ∀ a : Nat, l.foldl (fun n x => n * 256 + x.toNat) a < (a + 1) * 256 ^ l.length := by
  induction l with
  | nil => intro a; simp
  | cons x l ih =>
    intro a
    have h1 := ih (fun y hy => h y (List.mem_cons_of_mem _ hy)) (a * 256 + x.toNat)
    have h2 := h x List.mem_cons_self
    rw [List.foldl_cons, List.length_cons, Nat.pow_succ]
    refine Nat.lt_of_lt_of_le h1 ?_
    rw [Nat.mul_comm (256 ^ l.length) 256, ← Nat.mul_assoc]
    exact Nat.mul_le_mul_right _ (by omega)

theorem numB_lt {l : List Int} (h : GByt l) : numB l < 256 ^ l.length := by
  have := fold_lt h 0
  rw [Nat.zero_add, Nat.one_mul] at this
  exact this

theorem numB_small {l : List Int} {k : Nat} (h : GByt l) (hk : l.length ≤ k) : numB l < 256 ^ k := Nat.lt_of_lt_of_le (numB_lt h) (Nat.pow_le_pow_right (by decide) hk)

/-- a reader at block p: what is left -/
structure GRd (p : Nat) (zs : List Int) (w : World) : Prop where
  ex : ∃ a c, w.heap[p]? = some (.cells #[.slice a zs.length c] 62 (0, 0)) ∧ Has .u8 w a zs.length zs ∧ zs.length ≤ c ∧ c ≤ maxLen ∧ (∀ ad, a = some ad → ad.block < p)
  few : zs.length ≤ 1000000

theorem gor8 (m : Nat) (x : Int) (hm : m < 72057594037927936) (hx : 0 ≤ x ∧ x < 256) : bits .or .u64 ((m : Int) * 256) x = ((m * 256 + x.toNat : Nat) : Int) := by
  obtain ⟨y, rfl⟩ : ∃ y : Nat, x = (y : Int) := ⟨x.toNat, by omega⟩
  have := u64_or ((m : Int) * 256) (y : Int) (by omega) (by omega) (by omega) (by omega)
  rw [this, show ((m : Int) * 256).toNat = m * 256 by omega, Int.toNat_natCast]
  congr 1
  rw [Nat.mul_comm m 256, show (256 : Nat) = 2 ^ 8 from rfl, ← Nat.two_pow_add_eq_or_of_lt (by omega)]

theorem Has.byt {w : World} {a : Option Addr} {len : Nat} {zs : List Int} (h : Has .u8 w a len zs) : GByt zs := fun x hx => by
  have := bounds_u8 (h.2.1 x hx)
  omega

theorem Has.cut {k : IntKind} {w : World} {b off len : Nat} {zs : List Int} (h : Has k w (Option.some ⟨b, off, none⟩) len zs) (n : Nat) (hn : n ≤ len) : Has k w (Option.some ⟨b, off + n, none⟩) (len - n) (zs.drop n) := by
  refine ⟨by rw [List.length_drop, h.1], fun x hx => h.2.1 x (List.mem_of_mem_drop hx), ?_⟩
  rcases Nat.eq_or_lt_of_le hn with e | hlt
  · exact .inl (List.drop_eq_nil_of_le (by rw [h.1]; omega))
  · obtain ⟨b', off', e, hb, hc⟩ := h.some (by omega)
    simp only [Option.some.injEq, Addr.mk.injEq, and_true] at e
    obtain ⟨rfl, rfl⟩ := e
    refine .inr ⟨_, _, rfl, hb, fun i hi => ?_⟩
    rw [Nat.add_assoc, hc (n + i) (by omega)]
    simp [List.getD_eq_getElem?_getD]

/-- all old but the block p is as it was -/
structure GRn (p : Nat) (w w' : World) : Prop where
  os : w'.os = w.os
  tape : w'.tape = w.tape
  output : w'.output = w.output
  size : w.heap.size ≤ w'.heap.size
  block : ∀ k, k < w.heap.size → k ≠ p → w'.heap[k]? = w.heap[k]?

theorem GRn.refl (p : Nat) (w : World) : GRn p w w := ⟨rfl, rfl, rfl, Nat.le_refl _, fun _ _ _ => rfl⟩
theorem GRn.trans {p : Nat} {a b c : World} (h : GRn p a b) (k : GRn p b c) : GRn p a c := ⟨k.os.trans h.os, k.tape.trans h.tape, k.output.trans h.output, Nat.le_trans h.size k.size, fun i hi hp => (k.block i (Nat.lt_of_lt_of_le hi h.size) hp).trans (h.block i hi hp)⟩
theorem GRn.of {p : Nat} {w w' : World} (h : Below w.heap.size w w') : GRn p w w' := ⟨h.os, h.tape, h.output, h.size, fun k hk _ => h.block k hk⟩
theorem GRn.put (p : Nat) (w : World) (o : Nat) (v : Value) : GRn p w (w.setCell ⟨p, o, none⟩ v) := ⟨rfl, rfl, rfl, by simp [World.setCell], fun k _ hp => Below.heap_setCell _ _ _ _ hp⟩
theorem GRn.low {p B : Nat} {w w' : World} (h : GRn p w w') (hp : B ≤ p) (hB : B ≤ w.heap.size) : Below B w w' := ⟨h.os, h.tape, h.output, h.size, fun k hk => h.block k (by omega) (by omega)⟩
theorem GRn.put_new {p g : Nat} {w w' : World} (h : GRn p w w') (hg : w.heap.size ≤ g) (o : Nat) (v : Value) : GRn p w (w'.setCell ⟨g, o, none⟩ v) :=
  ⟨h.os, h.tape, h.output, by simpa [World.setCell] using h.size, fun k hk hp => (Below.heap_setCell _ _ _ _ (by show k ≠ g; omega)).trans (h.block k hk hp)⟩

theorem Has.blks {k : IntKind} {w w' : World} {a : Option Addr} {len : Nat} {zs : List Int} (h : Has k w a len zs) (hs : w.heap.size ≤ w'.heap.size) (hb : ∀ ad : Addr, a = Option.some ad → w'.heap[ad.block]? = w.heap[ad.block]?) : Has k w' a len zs := by
  refine ⟨h.1, h.2.1, ?_⟩
  rcases h.2.2 with h | ⟨b, off, rfl, hlt, hc⟩
  · exact .inl h
  · refine .inr ⟨b, off, rfl, Nat.lt_of_lt_of_le hlt hs, fun i hi => ?_⟩
    have := hb _ rfl
    dsimp only at this
    rw [← hc i hi]
    simp only [World.cell?, this]

set_option maxHeartbeats 1000000 in
set_option maxRecDepth 20000 in
theorem grwhole (p size : Nat) (zs : List Int) (w : World) (h1 : 1 ≤ size) (h8 : size ≤ 8) (h : GRd p zs w) (hl : size ≤ zs.length) :
    Calls Try.prog 43 #[.pointer (some ⟨p, 0, none⟩), .int .i64 size] w fun e w' => e = .returned (.int .u64 ((numB (zs.take size) : Nat) : Int)) ∧ GRd p (zs.drop size) w' ∧ GRn p w w' := by
  obtain ⟨a, c, h0, hz, hc, hcm, hlo⟩ := h.ex
  obtain ⟨g, off, rfl, hgl, hcs⟩ := hz.some (by omega)
  have c0 : w.cell? ⟨p, 0, none⟩ = some (.slice (some ⟨g, off, none⟩) zs.length c) := by simp [World.cell?, h0]
  have f0 : w.frozen? ⟨p, 0, none⟩ = false := by simp [World.frozen?, h0]
  have hpl : p < w.heap.size := (Array.getElem?_eq_some_iff.1 h0).1
  have hci : (size : Int) ≤ (c : Int) := by omega
  have hli : (size : Int) ≤ (zs.length : Int) := by omega
  have hc' : size ≤ c := by omega
  have hbz := hz.byt
  unfold maxLen at hcm
  have HCS := hid hcs
  have HBZ := hid hbz
  have H1 := hid h1
  have H8 := hid h8
  have HL := hid hl
  have HEND : Hid (∀ x, (x = (⟨g, off + size, none⟩ : Addr) ∨ size = zs.length ∧ x.block = g) → GRd p (zs.drop size) (w.setCell ⟨p, 0, none⟩ (.slice (some x) (zs.length - size) (c - size)))) := by
    intro x hx
    have hgp : g ≠ p := by have := hlo _ rfl; dsimp only at this; omega
    have hs : (w.setCell ⟨p, 0, none⟩ (.slice (some x) (zs.length - size) (c - size))).heap[p]? = some (.cells #[.slice (some x) (zs.length - size) (c - size)] 62 (0, 0)) := by
      simp [World.setCell, Array.getElem?_modify, h0]
    refine ⟨⟨some x, c - size, ?_, ?_, by rw [List.length_drop]; omega, by unfold maxLen; omega, ?_⟩, by rw [List.length_drop]; have := h.few; omega⟩
    · rw [List.length_drop]; exact hs
    · rw [List.length_drop]
      rcases hx with rfl | ⟨e, hb⟩
      · have := hz.cut size hl
        exact this.blks (by simp [World.setCell]) (fun ad had => by
          simp only [Option.some.injEq] at had
          subst had
          exact Below.heap_setCell _ _ _ _ hgp)
      · refine ⟨by rw [List.length_drop], fun y hy => hz.2.1 y (List.mem_of_mem_drop hy), .inl (List.drop_eq_nil_of_le (by omega))⟩
    · intro ad had
      simp only [Option.some.injEq] at had
      subst had
      have := hlo _ rfl
      dsimp only at this
      rcases hx with rfl | ⟨_, hb⟩
      · exact this
      · rw [hb]; exact this
  clear h h0 hz hcs hlo hbz
  go_enter Try.func43, Try.ntmps43
  go_wp2
  go_loopw [15, 5, 7] (fun q n _ wr => ∃ i : Nat, i ≤ size ∧ q = .int .i64 i ∧ n = .int .u64 ((numB (zs.take i) : Nat) : Int) ∧ wr = w) (fun q _ _ _ => size - (intOf q).toNat)
  case atStart => exact ⟨0, Nat.zero_le _, rfl, rfl, rfl⟩
  case round =>
    obtain ⟨i, hi, rfl, rfl, rfl⟩ := hrel
    by_cases hlt : i < size
    · have hii : (i : Int) < (size : Int) := by omega
      have hiz : i < zs.length := by omega
      obtain ⟨x, hx⟩ : ∃ x, zs[i]? = some x := ⟨_, List.getElem?_eq_getElem hiz⟩
      have cx := HCS.out i hiz
      rw [List.getD_eq_getElem?_getD, hx, Option.getD_some] at cx
      have hxb := HBZ.out x (List.mem_of_getElem? hx)
      have htk : zs.take (i + 1) = zs.take i ++ [x] := by rw [List.take_add_one, hx]; rfl
      have hsm : numB (zs.take i) < 256 ^ 7 := numB_small (fun y hy => HBZ.out y (List.mem_of_mem_take hy)) (by rw [List.length_take]; omega)
      have HN : Hid (((numB (zs.take (i + 1)) : Nat) : Int) = bits .or .u64 ((numB (zs.take i) : Int) * 256) x) := by
        show _ = _
        rw [htk, numB_snoc, gor8 _ x hsm hxb]
      generalize numB (zs.take i) = m at *
      have hm : m < 72057594037927936 := hsm
      clear hsm htk hx
      go_wp2
      go_roundw
      case rel => exact ⟨i + 1, by omega, by go_num, by rw [HN.out], trivial⟩
      case measure => simp [intOf]; omega
    · have hii : ¬ (i : Int) < (size : Int) := by omega
      obtain rfl : i = size := by omega
      have HR := hid (GRn.put p wr 0)
      by_cases hcc : c = i
      · subst hcc
        have HE := hid (HEND.out ⟨g, off, none⟩ (.inr ⟨by omega, rfl⟩))
        rw [show zs.length - c = 0 by omega, Nat.sub_self] at HE
        clear HEND HCS HBZ
        go_wp2
        go_ret
        exact ⟨rfl, HE.out, HR.out _⟩
      · have HE := hid (HEND.out ⟨g, off + i, none⟩ (.inl rfl))
        clear HEND HCS HBZ
        go_wp2
        go_ret
        exact ⟨rfl, HE.out, HR.out _⟩
end Go.Proofs.Ytcdpmpcpgijebaa
