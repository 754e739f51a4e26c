/- Steps of a table, as they lie; what stepsGreat does. -/
import Derived.Test.YtlnkfgdepddmlacLEnts
namespace Go.Proofs.Ytlnkfgdepddmlac
open Go.RowKit Mth

/-- a step: what is done; where its lists lie, and their numbers -/
structure SD where
  doo : Int
  ka : Option Addr
  kn : Nat
  kc : Nat
  ks : List Int
  ma : Option Addr
  mn : Nat
  mc : Nat
  ms : List Int
  ln : Int
  pr : Int
  ac : Int
  a : Option Addr
  n : Nat
  c : Nat
  xs : List Int

def SD.ok (d : SD) (w : World) : Prop := (d.ka = none → d.kn = 0 ∧ d.kc = 0) ∧ Has .u64 w d.ka d.kn d.ks ∧ (d.ma = none → d.mn = 0 ∧ d.mc = 0) ∧ Has .u64 w d.ma d.mn d.ms ∧ (d.a = none → d.n = 0 ∧ d.c = 0) ∧ Has .u64 w d.a d.n d.xs

/-- its cells -/
def SD.at (d : SD) (w : World) (g o : Nat) : Prop :=
  w.cell? ⟨g, o, none⟩ = some (.int .i64 d.doo) ∧ w.cell? ⟨g, o + 1, none⟩ = some (.slice d.ka d.kn d.kc) ∧ w.cell? ⟨g, o + 2, none⟩ = some (.slice d.ma d.mn d.mc) ∧ w.cell? ⟨g, o + 3, none⟩ = some (.int .i64 d.ln) ∧ w.cell? ⟨g, o + 4, none⟩ = some (.int .i64 d.pr) ∧ w.cell? ⟨g, o + 5, none⟩ = some (.int .i64 d.ac) ∧ w.cell? ⟨g, o + 6, none⟩ = some (.slice d.a d.n d.c)

def Steps (w : World) (a : Option Addr) (n : Nat) (S : List SD) : Prop :=
  S.length = n ∧ ∀ (i : Nat) (d : SD), S[i]? = some d → ∃ g off, a = some ⟨g, off, none⟩ ∧ d.at w g (off + i * 7) ∧ d.ok w

theorem SD.at.moved {d : SD} {w w' : World} {g o : Nat} (h : d.at w g o) (m : Moved w w') : d.at w' g o := by
  obtain ⟨h0, h1, h2, h3, h4, h5, h6⟩ := h
  have t := tight_slice d.ka d.kn d.kc
  exact ⟨m.cell h0 h1 t, m.cell h1 h1 t, m.cell h2 h1 t, m.cell h3 h1 t, m.cell h4 h1 t, m.cell h5 h1 t, m.cell h6 h1 t⟩

theorem SD.ok.moved {d : SD} {w w' : World} (h : d.ok w) (m : Moved w w') : d.ok w' := by
  obtain ⟨h0, h1, h2, h3, h4, h5⟩ := h
  exact ⟨h0, m.has h1, h2, m.has h3, h4, m.has h5⟩

theorem Steps.moved {w w' : World} {a : Option Addr} {n : Nat} {S : List SD} (h : Steps w a n S) (m : Moved w w') : Steps w' a n S := by
  refine ⟨h.1, fun i d hd => ?_⟩
  obtain ⟨g, off, e, h0, h1⟩ := h.2 i d hd
  exact ⟨g, off, e, h0.moved m, h1.moved m⟩

theorem Steps.step {w w' : World} {a : Option Addr} {n : Nat} {S : List SD} (h : Steps w a n S) (hb : Below w.heap.size w w') : Steps w' a n S := h.moved (moved_below hb)

/-- small enough -/
def SD.small (d : SD) : Prop := d.kn ≤ 20 ∧ d.mn ≤ 20 ∧ d.n ≤ 20

/-- too great, or small enough -/
def Told (n : Nat) (S : List SD) (e : Ending) : Prop := e = .returned (.bool true) ∨ (e = .returned (.bool false) ∧ n ≤ 200 ∧ ∀ d ∈ S, d.small)

set_option maxHeartbeats 1000000 in
set_option maxRecDepth 20000 in
theorem great_any {w : World} {a : Option Addr} {n c : Nat} {S : List SD} (h : Steps w a n S) :
    Calls Try.prog 8 #[.slice a n c] w fun e w' => Told n S e ∧ w' = w := by
  have HS := hid h
  have hlen := h.1
  clear h
  by_cases h200 : (200 : Int) < (n : Int)
  · go_enter Try.func8, Try.ntmps8
    go_wp2
    go_ret
    exact ⟨.inl rfl, rfl⟩
  · go_enter Try.func8, Try.ntmps8
    go_wp2
    go_loop [3] (fun q => ∃ k : Nat, k ≤ n ∧ q = .int .i64 k ∧ Hid (∀ i d, i < k → S[i]? = some d → d.small)) (fun q => n - (intOf q).toNat)
    case atStart => exact ⟨0, Nat.zero_le _, rfl, fun i d hi => absurd hi (Nat.not_lt_zero _)⟩
    case round =>
      obtain ⟨k, hk, rfl, hsm⟩ := hrel
      by_cases hlt : k < n
      · have hd : S[k]? = some (S[k]'(by omega)) := List.getElem?_eq_getElem _
        obtain ⟨g, off, rfl, ⟨h0, h1, h2, h3, h4, h5, h6⟩, _⟩ := HS.out.2 k _ hd
        have HD := hid hd
        clear hd HS
        generalize S[k]'(by omega) = d at *
        have hki : (k : Int) < (n : Int) := by omega
        by_cases e1 : (20 : Int) < (d.kn : Int)
        · go_wp2
          go_ret
          exact ⟨.inl rfl, rfl⟩
        · by_cases e2 : (20 : Int) < (d.mn : Int)
          · go_wp2
            go_ret
            exact ⟨.inl rfl, rfl⟩
          · by_cases e3 : (20 : Int) < (d.n : Int)
            · go_wp2
              go_ret
              exact ⟨.inl rfl, rfl⟩
            · have HE := hid (And.intro e1 (And.intro e2 e3))
              go_wp2
              go_round
              case rel => exact ⟨k + 1, by omega, by go_num, fun i d' hi hd' => by
                by_cases e : i = k
                · subst e
                  have e' : d = d' := by simpa using HD.out.symm.trans hd'
                  subst e'
                  have := HE.out
                  exact ⟨by omega, by omega, by omega⟩
                · exact hsm.out i d' (by omega) hd'⟩
              case measure => simp [intOf]; omega
      · go_wp2
        go_ret
        exact ⟨.inr ⟨rfl, by omega, fun d hd => by
          obtain ⟨i, hi, rfl⟩ := List.getElem_of_mem hd
          exact hsm.out i _ (by omega) (List.getElem?_eq_getElem hi)⟩, rfl⟩
end Go.Proofs.Ytlnkfgdepddmlac
