/- What isEntry, place and clashes of a table by masks do. -/
import Derived.Test.YtlnkfgdepddmlacMFit
namespace Go.Proofs.Ytlnkfgdepddmlac
open Go.RowKit Mth

set_option maxHeartbeats 4000000 in
set_option maxRecDepth 20000 in
theorem isEntry_any {w : World} {p : Nat} {keys : Int} {f : MD} {e : TE} (hp : w.cell? ⟨p, 0, none⟩ = some (.int .i64 keys)) (hf : f.good w e) :
    Calls Try.prog 51 #[.pointer (some ⟨p, 0, none⟩), f.ev] w fun r w' => AskDone w w' (GoodM keys e) r := by
  have hb0 := bl_alloc (o := f.ec) (Below.refl w.heap.size w)
  have hpl : p < w.heap.size := World.block_lt_of_cell? w _ hp
  have p0 := (hb0.cell (p := ⟨p, 0, none⟩) hpl).trans hp
  have HK := hid (hf.ks.step hb0)
  have HM := hid (hf.ms.step hb0)
  have hkl := hf.ks.1
  have hml := hf.ms.1
  have HPR := hid hf.pr
  have hk3 := hf.ks3
  have HGR := hid (fun s => grew_alloc w f.ec s)
  have SX : Six (w.alloc f.ec) w.heap.size (.slice f.ka f.kn f.kc) (.slice f.ma f.mn f.mc) (.int .i64 f.ln) (.int .i64 f.pr) (.int .i64 f.ac) (.slice f.a f.n f.c) := six_new w _ _ _ _ _ _ _
  obtain ⟨k0, k1, -, k3, -, -, -, -, -, -, -, -⟩ := SX
  have hne : ¬ w.heap.size = p := by omega
  clear hf hb0 hp hpl
  have HNO : Hid (¬ GoodM keys e → ∀ s, AskDone w ((w.alloc f.ec).drewN s) (GoodM keys e) (.returned (.bool false))) := fun h s => ⟨false, rfl, ⟨fun h => (by cases h), fun h' => absurd h' h⟩, HGR.out s⟩
  go_enter Try.func51, Try.ntmps51
  go_wp2_with fail
  generalize w.alloc f.ec = w0 at *
  generalize w.heap.size = b at *
  by_cases h1 : (f.kn : Int) = keys
  · have d1 : ((f.kn : Int) != keys) = false := by simpa using h1
    by_cases h2 : (f.mn : Int) = keys
    · have d2 : ((f.mn : Int) != keys) = false := by simpa using h2
      by_cases h3 : f.pr < 0
      · have d3 : decide (f.pr < 0) = true := decide_eq_true h3
        have HE := hid (HNO.out (fun h => by have := h.2.2.1; have := HPR.out; omega))
        clear HNO h1 h2 h3
        go_quiet (fail)
        go_wp2
        go_ret
        exact HE.out _
      · have d3 : decide (f.pr < 0) = false := decide_eq_false h3
        by_cases h4 : 1000 < f.pr
        · have d4 : decide (1000 < f.pr) = true := decide_eq_true h4
          have HE := hid (HNO.out (fun h => by have := h.2.2.2.1; have := HPR.out; omega))
          clear HNO h1 h2 h3 h4
          go_quiet (fail)
          go_wp2
          go_ret
          exact HE.out _
        · have d4 : decide (1000 < f.pr) = false := decide_eq_false h4
          have HW := hid (show Within e → GoodM keys e from fun h => ⟨by omega, by omega, by have := HPR.out; omega, by have := HPR.out; omega, h⟩)
          have hmk : f.mn = f.kn := by omega
          clear h1 h2 h3 h4
          go_quiet (fail)
          clear d1 d2 d3 d4
          have HB : Hid (∀ s, Grew w ((w0.drewN nq).drewN s)) := fun s => by rw [World.drewN_drewN]; exact HGR.out _
          have HNO' : Hid (¬ GoodM keys e → AskDone w (w0.drewN nq) (GoodM keys e) (.returned (.bool false))) := fun h => HNO.out h nq
          have q0 : (w0.drewN nq).cell? ⟨b, 0, none⟩ = _ := k0
          have q1 : (w0.drewN nq).cell? ⟨b, 1, none⟩ = _ := k1
          have K1 := hid (show Has .u64 (w0.drewN nq) f.ka f.kn e.ks from HK.out)
          have M1 := hid (show Has .u64 (w0.drewN nq) f.ma f.mn e.ms from HM.out)
          clear k0 k1 HK HM HNO
          have G1 := hid (HGR.out nq)
          generalize w0.drewN nq = w1 at *
          go_wp2_with fail
          go_loop [38] (fun q => ∃ i : Nat, i ≤ f.kn ∧ q = .int .i64 i ∧ Hid (∀ t, t < i → nz e.ks t &&& nz e.ms t = nz e.ks t)) (fun q => f.kn - (intOf q).toNat)
          case atStart => exact ⟨0, Nat.zero_le _, rfl, fun t ht => absurd ht (Nat.not_lt_zero _)⟩
          case round =>
            obtain ⟨i, hi, rfl, hz⟩ := hrel
            by_cases hlt : i < f.kn
            · obtain ⟨p1, o1, ea, -, hc1⟩ := K1.out.some (by omega)
              obtain ⟨p3, o3, ea3, -, hc3⟩ := M1.out.some (by omega)
              rw [ea] at q0 ⊢
              rw [ea3] at q1
              have E4 := hid (within_nums (n64_at K1.out i) (n64_at M1.out i))
              have c1 := hc1 i hlt
              have c3 := hc3 i (by omega)
              have E5 : Hid (bits .andNot .u64 (e.ks.getD i 0) (e.ms.getD i 0) = 0 ↔ nz e.ks i &&& nz e.ms i = nz e.ks i) := E4.out
              generalize e.ks.getD i 0 = v1 at *
              generalize e.ms.getD i 0 = v2 at *
              generalize hv : bits .andNot .u64 v1 v2 = v3 at *
              have hin : (i : Int) < (f.kn : Int) := by omega
              have him : (i : Int) < (f.mn : Int) := by omega
              clear hc1 hc3 E4 K1 M1
              by_cases h0 : v3 = 0
              · have HN : Hid (∀ t, t < i + 1 → nz e.ks t &&& nz e.ms t = nz e.ks t) := fun t ht => by
                  by_cases et : t = i
                  · subst et; exact E5.out.1 h0
                  · exact hz.out t (by omega)
                have hd : (v3 != 0) = false := by simpa using h0
                clear h0
                go_wp2
                go_round
                case rel => exact ⟨i + 1, by omega, by go_num, HN.out⟩
                case measure => simp [intOf]; omega
              · have HN := hid (HNO'.out (fun hm => h0 (E5.out.2 (hm.2.2.2.2 i (by omega)))))
                have hd : (v3 != 0) = true := by simpa using h0
                clear h0
                go_wp2
                go_ret
                exact HN.out
            · have HN := hid (HW.out (fun t ht => hz.out t (by omega)))
              go_wp2
              go_ret
              exact ⟨true, rfl, ⟨fun _ => HN.out, fun _ => rfl⟩, G1.out⟩
    · have d2 : ((f.mn : Int) != keys) = true := by simpa using h2
      have HE := hid (HNO.out (fun h => h2 (by have := h.2.1; omega)))
      clear HNO h1 h2
      go_quiet (fail)
      go_wp2
      go_ret
      exact HE.out _
  · have d1 : ((f.kn : Int) != keys) = true := by simpa using h1
    have HE := hid (HNO.out (fun h => h1 (by have := h.1; omega)))
    clear HNO h1
    go_quiet (fail)
    go_wp2
    go_ret
    exact HE.out _
end Go.Proofs.Ytlnkfgdepddmlac
