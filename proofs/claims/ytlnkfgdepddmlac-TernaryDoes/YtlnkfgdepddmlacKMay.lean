/- What may of the document's own table by masks does. -/
import Derived.Test.YtlnkfgdepddmlacMTab
import Derived.Deep.CutRange
namespace Go.Proofs.Ytlnkfgdepddmlac
open Go.RowKit Mth

/-- the head of the document's own table by masks -/
structure KHead (w : World) (r : Nat) (keys most : Int) : Prop where
  c0 : w.cell? ⟨r, 0, none⟩ = some (.int .i64 3)
  c1 : w.cell? ⟨r, 1, none⟩ = some (.int .i64 keys)
  c2 : w.cell? ⟨r, 2, none⟩ = some (.int .i64 0)
  c3 : w.cell? ⟨r, 3, none⟩ = some (.int .i64 most)

theorem KHead.step {w w' : World} {r : Nat} {keys most : Int} (h : KHead w r keys most) (hb : Below w.heap.size w w') : KHead w' r keys most := by
  have hr := World.block_lt_of_cell? w _ h.c0
  have cs : ∀ i, w'.cell? ⟨r, i, none⟩ = w.cell? ⟨r, i, none⟩ := fun i => hb.cell (p := ⟨r, i, none⟩) hr
  exact ⟨(cs 0).trans h.c0, (cs 1).trans h.c1, (cs 2).trans h.c2, (cs 3).trans h.c3⟩

def KMayDone (w w' : World) (keys : Int) (e : TE) (r : Ending) : Prop := r = .returned (.int .i64 (if GoodM keys e then 0 else 6)) ∧ Grew w w'

set_option maxHeartbeats 8000000 in
set_option maxRecDepth 20000 in
theorem kmay_any {w : World} {r : Nat} {keys most : Int} {f : MD} {e : TE} (hd : KHead w r keys most) (hf : f.good w e) :
    Calls Try.prog 40 #[.pointer (some ⟨r, 0, none⟩), f.ev] w fun q w' => KMayDone w w' keys e q := by
  have hb0 := bl_alloc (o := f.ec) (Below.refl w.heap.size w)
  have hrl : r < w.heap.size := World.block_lt_of_cell? w _ hd.c0
  have c0 := (hd.step hb0).c0
  have c1 := (hd.step hb0).c1
  have HK := hid (hf.ks.step hb0)
  have HM := hid (hf.ms.step hb0)
  have hkl := hf.ks.1
  have hml := hf.ms.1
  have HPR := hid hf.pr
  have hk3 := hf.ks3
  have HGR := hid (fun s => grew_alloc w f.ec s)
  have SX : Six (w.alloc f.ec) w.heap.size (.slice f.ka f.kn f.kc) (.slice f.ma f.mn f.mc) (.int .i64 f.ln) (.int .i64 f.pr) (.int .i64 f.ac) (.slice f.a f.n f.c) := six_new w _ _ _ _ _ _ _
  obtain ⟨k0, k1, -, k3, -, -, -, -, -, -, -, -⟩ := SX
  have hne : ¬ w.heap.size = r := by omega
  clear hf hb0 hd hrl
  have HNO : Hid (¬ GoodM keys e → ∀ s, KMayDone w ((w.alloc f.ec).drewN s) keys e (.returned (.int .i64 6))) := fun h s => ⟨by rw [if_neg h], HGR.out s⟩
  go_enter Try.func40, Try.ntmps40
  go_upto_region 12 with fail
  generalize w.alloc f.ec = w0 at *
  generalize w.heap.size = b at *
  by_cases h1 : (f.kn : Int) = keys
  · have d1 : ((f.kn : Int) != keys) = false := by simpa using h1
    by_cases h2 : (f.mn : Int) = keys
    · have d2 : ((f.mn : Int) != keys) = false := by simpa using h2
      by_cases h3 : f.pr < 0
      · have d3 : decide (f.pr < 0) = true := decide_eq_true h3
        have HE := hid (HNO.out (fun h => by have := h.2.2.1; have := HPR.out; omega))
        clear HNO h1 h2 h3
        go_quiet (fail)
        go_wp2
        go_ret
        exact HE.out _
      · have d3 : decide (f.pr < 0) = false := decide_eq_false h3
        by_cases h4 : 1000 < f.pr
        · have d4 : decide (1000 < f.pr) = true := decide_eq_true h4
          have HE := hid (HNO.out (fun h => by have := h.2.2.2.1; have := HPR.out; omega))
          clear HNO h1 h2 h3 h4
          go_quiet (fail)
          go_wp2
          go_ret
          exact HE.out _
        · have d4 : decide (1000 < f.pr) = false := decide_eq_false h4
          have HW := hid (show Within e → GoodM keys e from fun h => ⟨by omega, by omega, by have := HPR.out; omega, by have := HPR.out; omega, h⟩)
          have hmk : f.mn = f.kn := by omega
          clear h2 h3 h4
          subst h1
          go_quiet (fail)
          clear d1 d2 d3 d4
          have HB : Hid (∀ s, Grew w ((w0.drewN nq).drewN s)) := fun s => by rw [World.drewN_drewN]; exact HGR.out _
          have HNO' : Hid (¬ GoodM (f.kn : Int) e → ∀ s, KMayDone w ((w0.drewN nq).drewN s) (f.kn : Int) e (.returned (.int .i64 6))) := fun h s => by rw [World.drewN_drewN]; exact HNO.out h _
          have q0 : (w0.drewN nq).cell? ⟨b, 0, none⟩ = _ := k0
          have q1 : (w0.drewN nq).cell? ⟨b, 1, none⟩ = _ := k1
          have z1 : (w0.drewN nq).cell? ⟨r, 1, none⟩ = _ := c1
          have K1 := hid (show Has .u64 (w0.drewN nq) f.ka f.kn e.ks from HK.out)
          have M1 := hid (show Has .u64 (w0.drewN nq) f.ma f.mn e.ms from HM.out)
          clear k0 k1 k3 c0 c1 HK HM HNO
          generalize w0.drewN nq = w1 at *
          go_wp2_with fail
          go_loopw [6] (fun q wr => ∃ i : Nat, i ≤ f.kn ∧ q = .int .i64 i ∧ Hid (∀ t, t < i → nz e.ks t &&& nz e.ms t = nz e.ks t) ∧ Hid (∃ s, wr = w1.drewN s)) (fun q _ => f.kn - (intOf q).toNat)
          case atStart => exact ⟨0, Nat.zero_le _, rfl, fun t ht => absurd ht (Nat.not_lt_zero _), 0, rfl⟩
          case round =>
            obtain ⟨i, hi, rfl, hz, hwr⟩ := hrel
            obtain ⟨s, rfl⟩ := hwr
            have y1 : (w1.drewN s).cell? ⟨r, 1, none⟩ = _ := z1
            by_cases hlt : i < f.kn
            · obtain ⟨p1, o1, ea, -, hc1⟩ := K1.out.some (by omega)
              obtain ⟨p3, o3, ea3, -, hc3⟩ := M1.out.some (by omega)
              have b0 : (w1.drewN s).cell? ⟨b, 0, none⟩ = some (.slice (some ⟨p1, o1, none⟩) f.kn f.kc) := by rw [← ea]; exact q0
              have b1 : (w1.drewN s).cell? ⟨b, 1, none⟩ = some (.slice (some ⟨p3, o3, none⟩) f.mn f.mc) := by rw [← ea3]; exact q1
              obtain ⟨a3, ea4, E4⟩ : ∃ a3, bits .and .u64 (e.ks.getD i 0) (e.ms.getD i 0) = a3 ∧ (a3 = e.ks.getD i 0 ↔ nz e.ks i &&& nz e.ms i = nz e.ks i) := by
                refine ⟨_, rfl, ?_⟩
                rw [mfit_nums (n64_at K1.out i) (n64_at M1.out i)]
                have := (n64_at K1.out i).1
                unfold nz
                constructor <;> intro h <;> omega
              have E5 := hid E4
              have v1 : (w1.drewN s).cell? ⟨p1, o1 + i, none⟩ = _ := hc1 i hlt
              have v3 : (w1.drewN s).cell? ⟨p3, o3 + i, none⟩ = _ := hc3 i (by omega)
              generalize e.ks.getD i 0 = x1 at *
              generalize e.ms.getD i 0 = x2 at *
              have hin : (i : Int) < (f.kn : Int) := by omega
              have him : (i : Int) < (f.mn : Int) := by omega
              have HD : Hid (∀ s', ∃ s'', (w1.drewN s).drewN s' = w1.drewN s'') := fun s' => ⟨_, World.drewN_drewN _ _ _⟩
              have HNS : Hid (¬ GoodM (f.kn : Int) e → ∀ s', KMayDone w ((w1.drewN s).drewN s') (f.kn : Int) e (.returned (.int .i64 6))) := fun h s' => by rw [World.drewN_drewN]; exact HNO'.out h _
              clear hc1 hc3 E4 K1 M1 q0 q1 z1 ea ea3
              generalize w1.drewN s = wa at *
              by_cases h0 : a3 = x1
              · have HN : Hid (∀ t, t < i + 1 → nz e.ks t &&& nz e.ms t = nz e.ks t) := fun t ht => by
                  by_cases et : t = i
                  · subst et; exact E5.out.1 h0
                  · exact hz.out t (by omega)
                have hdd : (a3 != x1) = false := by simpa using h0
                clear h0
                go_wp2_with fail
                go_quiet (fail)
                go_wp2
                go_roundw
                case rel => exact ⟨i + 1, by omega, by go_num, HN.out, HD.out _⟩
                case measure => simp [intOf]; omega
              · have HN := hid (HNS.out (fun hm => h0 (E5.out.2 (hm.2.2.2.2 i (by omega)))))
                have hdd : (a3 != x1) = true := by simpa using h0
                clear h0
                go_wp2_with fail
                go_quiet (fail)
                go_wp2
                go_ret
                exact HN.out _
            · have HN := hid (HW.out (fun t ht => hz.out t (by omega)))
              have hie : i = f.kn := by omega
              subst hie
              go_wp2
              go_ret
              exact ⟨by rw [if_pos HN.out]; rfl, HB.out s⟩
    · have d2 : ((f.mn : Int) != keys) = true := by simpa using h2
      have HE := hid (HNO.out (fun h => h2 (by have := h.2.1; omega)))
      clear HNO h1 h2
      go_quiet (fail)
      go_wp2
      go_ret
      exact HE.out _
  · have d1 : ((f.kn : Int) != keys) = true := by simpa using h1
    have HE := hid (HNO.out (fun h => h1 (by have := h.1; omega)))
    clear HNO h1
    go_quiet (fail)
    go_wp2
    go_ret
    exact HE.out _
end Go.Proofs.Ytlnkfgdepddmlac
