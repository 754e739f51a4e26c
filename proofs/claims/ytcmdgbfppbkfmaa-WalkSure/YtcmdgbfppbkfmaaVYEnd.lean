/- What is so of every way's end, in plain numbers; a packet that may be (PacketFault). -/
import Derived.Test.YtcmdgbfppbkfmaaVYTake2
namespace Go.Proofs.Ytcmdgbfppbkfmaa
open Go.RowKit

theorem sure_at {P : Nat → Nat → Prop} {s : Wk.Sets} (h : Wk.IsAgg P s) {t b : Nat} (hp : P t b) : s.there = true ∧ t &&& s.must = s.must ∧ t &&& s.may = t ∧ s.least ≤ b ∧ b ≤ s.most := by
  have ht := h.th.2 ⟨t, b, hp⟩
  refine ⟨ht, Nat.eq_of_testBit_eq fun k => ?_, Nat.eq_of_testBit_eq fun k => ?_, h.bd t b hp⟩
  · rw [Nat.testBit_and]
    cases hm : s.must.testBit k with
    | false => simp
    | true => rw [(h.mu ht k).1 hm t b hp]; rfl
  · rw [Nat.testBit_and]
    cases hm : t.testBit k with
    | false => simp
    | true => rw [(h.ma ht k).2 ⟨t, b, hp, hm⟩]; rfl

/-- at the end of every way, by what Walk says -/
theorem sure_end {p : PPlan} (hc : (chkP p).1 = 0) {t b : Nat} (h : Wk.Wy (parOf p hc) p.ss.length t b) : ∃ s, (APp p hc p.ss.length)[p.ss.length]? = some s ∧ s.there = true ∧ t &&& s.must = s.must ∧ t &&& s.may = t ∧ s.least ≤ b ∧ b ≤ s.most := by
  have hi := ap_inv hc (Nat.le_refl p.ss.length)
  have hl : (APp p hc p.ss.length).length = p.ss.length + 1 := hi.1
  have ha := (hi.2 p.ss.length (Nat.le_refl _)).congr (Wk.wyN_all (Nat.le_refl _) (Nat.le_refl _))
  have hlt : p.ss.length < (APp p hc p.ss.length).length := by omega
  refine ⟨(APp p hc p.ss.length)[p.ss.length], List.getElem?_eq_getElem hlt, ?_⟩
  have := sure_at ha h
  rwa [List.getD_eq_getElem?_getD, List.getElem?_eq_getElem hlt] at this

/-- why a packet may not be -/
def packC (n : Nat) (port : Int) : Int := if 600 < n then 14 else if port < 0 ∨ 65535 < port then 1 else 0

set_option maxHeartbeats 1000000 in
set_option maxRecDepth 20000 in
theorem packFault_any (a : Option Addr) (n c : Nat) (port : Int) (w : World) (hl : n ≤ 100000) :
    Calls Try.prog 7 #[.slice a n c, .int .i64 port] w fun e w' => e = .returned (.agg #[.int .i64 (packC n port), .int .i64 (atOf (packC n port))]) ∧ Below w.heap.size w w' := by
  unfold packC
  by_cases h : 600 < n
  · rw [if_pos h]
    have e6 : atOf 14 = -1 := rfl
    rw [e6]
    have hi : (600 : Int) < (n : Int) := by omega
    go_enter Try.func7, Try.ntmps7
    go_wp2_with fail
    refine (fault_any _ _ _).mono ?_
    rintro e w1 ⟨rfl, hb1⟩
    have hb1' : Below (w.heap.size + 1) (w.alloc F0) w1 := by simpa using hb1
    obtain ⟨c0, c1, f0, f1, hsz⟩ := fault_cells hb1'
    go_wp2
    exact bodyPost_ret (v := .agg #[.int .i64 14, .int .i64 (-1)]) (by simp [results, Try.results7, go_sem, c0, c1]) rfl ⟨rfl, end_fault hb1' _ _⟩
  · rw [if_neg h]
    have hi : ¬ (600 : Int) < (n : Int) := by omega
    by_cases h1 : port < 0
    · rw [if_pos (.inl h1)]
      have e6 : atOf 1 = -1 := rfl
      rw [e6]
      go_enter Try.func7, Try.ntmps7
      go_wp2_with fail
      refine (fault_any _ _ _).mono ?_
      rintro e w1 ⟨rfl, hb1⟩
      have hb1' : Below (w.heap.size + 1) (w.alloc F0) w1 := by simpa using hb1
      obtain ⟨c0, c1, f0, f1, hsz⟩ := fault_cells hb1'
      go_wp2
      exact bodyPost_ret (v := .agg #[.int .i64 1, .int .i64 (-1)]) (by simp [results, Try.results7, go_sem, c0, c1]) rfl ⟨rfl, end_fault hb1' _ _⟩
    · by_cases h2 : 65535 < port
      · rw [if_pos (.inr h2)]
        have e6 : atOf 1 = -1 := rfl
        rw [e6]
        go_enter Try.func7, Try.ntmps7
        go_wp2_with fail
        refine (fault_any _ _ _).mono ?_
        rintro e w1 ⟨rfl, hb1⟩
        have hb1' : Below (w.heap.size + 1) (w.alloc F0) w1 := by simpa using hb1
        obtain ⟨c0, c1, f0, f1, hsz⟩ := fault_cells hb1'
        go_wp2
        exact bodyPost_ret (v := .agg #[.int .i64 1, .int .i64 (-1)]) (by simp [results, Try.results7, go_sem, c0, c1]) rfl ⟨rfl, end_fault hb1' _ _⟩
      · rw [if_neg (by omega)]
        have e6 : atOf 0 = 0 := rfl
        rw [e6]
        go_enter Try.func7, Try.ntmps7
        go_wp2
        exact bodyPost_ret (v := .agg #[.int .i64 0, .int .i64 0]) (by simp [results, Try.results7, go_sem]) rfl ⟨rfl, (Below.refl _ _).alloc (Nat.le_refl _) _⟩

end Go.Proofs.Ytcmdgbfppbkfmaa
