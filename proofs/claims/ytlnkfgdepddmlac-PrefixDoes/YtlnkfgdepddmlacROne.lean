/- What one and at of the document's own table by beginnings do. -/
import Derived.Test.YtlnkfgdepddmlacRMay
namespace Go.Proofs.Ytlnkfgdepddmlac
open Go.RowKit Mth

def OneIs (w w' : World) (b : Bool) (e : Ending) : Prop := e = .returned (.bool b) ∧ Below w.heap.size w w'

set_option maxHeartbeats 1000000 in
set_option maxRecDepth 20000 in
theorem one_any {w : World} {r : Nat} {wd most : Int} {ka kb aa ab : Option Addr} {ca cb na nb da db : Nat} {la lb ra rb : Int} {x y : Int} (hd : RHead w r wd most) (ha : Has .u64 w ka 1 [x]) (hb : Has .u64 w kb 1 [y]) :
    Calls Try.prog 65 #[.pointer (some ⟨r, 0, none⟩), EV ka 1 ca none 0 0 la 0 ra aa na da, EV kb 1 cb none 0 0 lb 0 rb ab nb db] w fun e w' => OneIs w w' (decide (la = lb ∧ x = y)) e := by
  have hb0 := bl_alloc (o := EC kb 1 cb none 0 0 lb 0 rb ab nb db) (bl_alloc (o := EC ka 1 ca none 0 0 la 0 ra aa na da) (Below.refl w.heap.size w))
  have c0 := (hd.step hb0).c0
  have HA := hid (ha.step hb0)
  have HB := hid (hb.step hb0)
  have B0 := hid hb0
  clear hd ha hb hb0
  by_cases hl : la = lb
  · subst hl
    have hll : (la != la) = false := by simp
    go_enter Try.func65, Try.ntmps65
    go_wp2_with fail
    refine (same_one _ _ HA.out HB.out).mono ?_
    rintro e w1 ⟨rfl, s, rfl⟩
    have HE : Hid (OneIs w (((w.alloc (EC ka 1 ca none 0 0 la 0 ra aa na da)).alloc (EC kb 1 cb none 0 0 la 0 rb ab nb db)).drewN s) (decide (la = la ∧ x = y)) (.returned (.bool (decide (x = y))))) := ⟨by simp, below_drewN B0.out s⟩
    clear HA HB B0
    go_wp2
    go_ret
    exact HE.out
  · have hll : (la != lb) = true := by simpa using hl
    have HE : Hid (OneIs w ((w.alloc (EC ka 1 ca none 0 0 la 0 ra aa na da)).alloc (EC kb 1 cb none 0 0 lb 0 rb ab nb db)) (decide (la = lb ∧ x = y)) (.returned (.bool false))) := ⟨by simp [hl], B0.out⟩
    clear HA HB B0 hl
    go_enter Try.func65, Try.ntmps65
    go_wp2
    go_ret
    exact HE.out

/-- an entry of the table -/
theorem Rws.entry {w : World} {B S r : Nat} {wd most : Int} {C : Told2} {es : List (Nat × Nat)} (h : Rws w B S r wd most C es) {i : Nat} {x : Nat × Nat} (hx : es[i]? = some x) :
    ∃ g cap ka kc aa an ac, w.cell? ⟨r, 4, none⟩ = some (.slice (some ⟨g, 0, none⟩) es.length cap) ∧ w.cell? ⟨g, i * 6, none⟩ = some (.slice ka 1 kc) ∧ w.cell? ⟨g, i * 6 + 1, none⟩ = some (.slice none 0 0) ∧ w.cell? ⟨g, i * 6 + 2, none⟩ = some (.int .i64 (x.1 : Int)) ∧ w.cell? ⟨g, i * 6 + 3, none⟩ = some (.int .i64 0) ∧ w.cell? ⟨g, i * 6 + 4, none⟩ = some (.int .i64 ((C x.1 x.2).getD (0, [])).1) ∧ w.cell? ⟨g, i * 6 + 5, none⟩ = some (.slice aa an ac) ∧
      Has .u64 w ka 1 [((x.2 * 2 ^ (wid wd - x.1) : Nat) : Int)] ∧ From 0 ka 1 ∧ (aa = none → an = 0 ∧ ac = 0) ∧ an ≤ 1000 ∧ Has .u64 w aa an ((C x.1 x.2).getD (0, [])).2 ∧ From 0 aa an := by
  obtain ⟨la, cap, h4, hl, _⟩ := h.lst
  have hi : i < es.length := (List.getElem?_eq_some_iff.1 hx).1
  obtain ⟨g, d, e, ea, he, ⟨c0, c1, c2, c3, c4, c5⟩, ⟨g1, g2, g3, g4, g5, g6, g7, g8⟩, f1, f2⟩ := hl.at i hi
  rw [List.getElem?_map, hx] at he
  simp only [Option.map_some, Option.some.injEq] at he
  subst he
  have hkn : d.kn = 1 := by rw [← g3.1]; rfl
  rw [hkn] at c0 g3 f1
  subst ea
  rw [g4] at c2
  rw [g5] at c4
  exact ⟨g, cap, d.ka, d.kc, d.a, d.n, d.c, h4, c0, c1, c2, c3, c4, c5, g3, f1, g6, g7, g8, f2⟩

/-- where a place is -/
def whereAt (es : List (Nat × Nat)) (x : Nat × Nat) : Int := if x ∈ es then (es.idxOf x : Int) else -1

theorem same_place {W key m n v : Nat} (hk : key % 2 ^ (W - m) = 0) : ((n : Int) = (m : Int) ∧ ((v * 2 ^ (W - n) : Nat) : Int) = (key : Int)) ↔ (n, v) = (m, key / 2 ^ (W - m)) := by
  constructor
  · rintro ⟨h1, h2⟩
    have e1 : n = m := by omega
    subst e1
    have e2 : v * 2 ^ (W - n) = key := by omega
    rw [← e2, Nat.mul_div_cancel _ (Nat.two_pow_pos _)]
  · intro h
    obtain ⟨rfl, rfl⟩ := Prod.mk.inj h
    refine ⟨rfl, ?_⟩
    have h1 := Nat.div_add_mod key (2 ^ (W - n))
    rw [hk, Nat.add_zero, Nat.mul_comm] at h1
    rw [h1]
end Go.Proofs.Ytlnkfgdepddmlac
