/- What fits, Find's search and isEntry of a table by masks do. -/
import Derived.Test.YtlnkfgdepddmlacMMeet
namespace Go.Proofs.Ytlnkfgdepddmlac
open Go.RowKit Mth

set_option maxHeartbeats 4000000 in
set_option maxRecDepth 20000 in
theorem mfits_any {w : World} {d : MD} {x : TE} {ka : Option Addr} {kc : Nat} {k : List Int} (hd : d.good w x) (h2 : d.mn = d.kn) (hk : Has .u64 w ka d.kn k) :
    Calls Try.prog 62 #[d.ev, .slice ka d.kn kc] w fun r w' => AskDone w w' (FitsE x k) r := by
  obtain ⟨dka, dkn, dkc, dma, dmn, dmc, dln, dpr, dac, da, dn, dc⟩ := d
  obtain ⟨-, h4, hks, -, -, hms, -, -, -, -, -⟩ := hd
  simp only at *
  subst h2
  have hb0 := bl_alloc (o := EC dka dmn dkc dma dmn dmc dln dpr dac da dn dc) (Below.refl w.heap.size w)
  have HK := hid (hks.step hb0)
  have HM := hid (hms.step hb0)
  have GK := hid (hk.step hb0)
  have hxl := hks.1
  have T1 := six_new w (.slice dka dmn dkc) (.slice dma dmn dmc) (.int .i64 dln) (.int .i64 dpr) (.int .i64 dac) (.slice da dn dc) 33
  have HGR := hid (fun s => grew_alloc w (EC dka dmn dkc dma dmn dmc dln dpr dac da dn dc) s)
  clear hks hms hk hb0
  go_enter Try.func62, Try.ntmps62
  go_wp2
  generalize w.alloc (EC dka dmn dkc dma dmn dmc dln dpr dac da dn dc) = w0 at *
  obtain ⟨k0, k1, -, -, -, -, -, -, -, -, -, -⟩ := T1
  go_loopw [10] (fun q wr => ∃ i : Nat, i ≤ dmn ∧ q = .int .i64 i ∧ Hid (∀ t, t < i → nz k t &&& nz x.ms t = nz x.ks t) ∧ Hid (∃ s, wr = w0.drewN s)) (fun q _ => dmn - (intOf q).toNat)
  case atStart => exact ⟨0, Nat.zero_le _, rfl, fun t ht => absurd ht (Nat.not_lt_zero _), 0, rfl⟩
  case round =>
    obtain ⟨i, hi, rfl, hz, hwr⟩ := hrel
    by_cases hlt : i < dmn
    · obtain ⟨p1, o1, rfl, -, hc1⟩ := HK.out.some (by omega)
      obtain ⟨p2, o2, rfl, -, hc2⟩ := GK.out.some (by omega)
      obtain ⟨p3, o3, rfl, -, hc3⟩ := HM.out.some (by omega)
      have e1 := mfit_nums (n64_at GK.out i) (n64_at HM.out i)
      have hn1 := (n64_at HK.out i).1
      obtain ⟨s, rfl⟩ := hwr
      have q1 : (w0.drewN s).cell? ⟨p1, o1 + i, none⟩ = _ := hc1 i hlt
      have q2 : (w0.drewN s).cell? ⟨p2, o2 + i, none⟩ = _ := hc2 i hlt
      have q3 : (w0.drewN s).cell? ⟨p3, o3 + i, none⟩ = _ := hc3 i hlt
      have b0 : (w0.drewN s).cell? ⟨w.heap.size, 0, none⟩ = _ := k0
      have b1 : (w0.drewN s).cell? ⟨w.heap.size, 1, none⟩ = _ := k1
      have E4 : Hid ((((k.getD i 0).toNat &&& (x.ms.getD i 0).toNat : Nat) : Int) = x.ks.getD i 0 ↔ nz k i &&& nz x.ms i = nz x.ks i) := by
        unfold nz
        constructor
        · intro h; omega
        · intro h; omega
      have HD : Hid (∀ s', ∃ s'', (w0.drewN s).drewN s' = w0.drewN s'') := fun s' => ⟨_, World.drewN_drewN _ _ _⟩
      generalize (((k.getD i 0).toNat &&& (x.ms.getD i 0).toNat : Nat) : Int) = a3 at *
      generalize x.ks.getD i 0 = v1 at *
      generalize k.getD i 0 = v2 at *
      generalize x.ms.getD i 0 = v3 at *
      have hin : (i : Int) < (dmn : Int) := by omega
      clear hc1 hc2 hc3 hn1
      generalize w0.drewN s = w1 at *
      by_cases h0 : a3 = v1
      · have HN : Hid (∀ t, t < i + 1 → nz k t &&& nz x.ms t = nz x.ks t) := fun t ht => by
          by_cases et : t = i
          · subst et; exact E4.out.1 h0
          · exact hz.out t (by omega)
        have hd : (a3 != v1) = false := by simpa using h0
        clear h0
        go_wp2_with fail
        go_quiet (fail)
        go_wp2
        go_roundw
        case rel => exact ⟨i + 1, by omega, by go_num, HN.out, HD.out _⟩
        case measure => simp [intOf]; omega
      · have HN : Hid (¬ FitsE x k) := fun hm => h0 (E4.out.2 (hm i (by omega)))
        have hd : (a3 != v1) = true := by simpa using h0
        clear h0
        go_wp2_with fail
        go_quiet (fail)
        go_wp2
        go_ret
        exact ⟨false, rfl, ⟨fun h => (by cases h), fun h => absurd h HN.out⟩, by obtain ⟨s'', e⟩ := HD.out nq; rw [e]; exact HGR.out _⟩
    · have ei : i = dmn := by omega
      subst ei
      have HN : Hid (FitsE x k) := fun t ht => hz.out t (by omega)
      go_wp2
      go_ret
      exact ⟨true, rfl, ⟨fun _ => HN.out, fun _ => rfl⟩, by obtain ⟨s'', e⟩ := hwr; rw [e]; exact HGR.out _⟩

set_option maxHeartbeats 1000000 in
set_option maxRecDepth 20000 in
theorem find1_any {w : World} {d : MD} {x : TE} {kb : Nat} {ka : Option Addr} {kn kc : Nat} {k : List Int} (hd : d.good w x) (h2 : d.mn = kn) (h3 : d.kn = kn) (hk : Has .u64 w ka kn k) (hb : w.cell? ⟨kb, 0, none⟩ = some (.slice ka kn kc)) :
    Calls Try.prog 61 #[d.ev, .pointer (some ⟨kb, 0, none⟩)] w fun r w' => AskDone w w' (FitsE x k) r := by
  have hb0 := bl_alloc (o := d.ec) (Below.refl w.heap.size w)
  have HF := mfits_any (kc := kc) (hd.step hb0) (by rw [h2, h3]) (by rw [h3]; exact hk.step hb0)
  rw [h3] at HF
  have HF := hid HF
  have hkl : kb < w.heap.size := World.block_lt_of_cell? w _ hb
  have q0 := (hb0.cell (p := ⟨kb, 0, none⟩) hkl).trans hb
  have hne : ¬ w.heap.size = kb := by omega
  have HGR := hid (grew_alloc w d.ec 0)
  clear hd hk hb hb0 h2 h3 hkl
  obtain ⟨k0, k1, k2, k3, k4, k5, -, -, -, -, -, -⟩ := six_new w (.slice d.ka d.kn d.kc) (.slice d.ma d.mn d.mc) (.int .i64 d.ln) (.int .i64 d.pr) (.int .i64 d.ac) (.slice d.a d.n d.c) 33
  go_enter Try.func61, Try.ntmps61
  go_wp2_with fail
  refine HF.out.mono ?_
  rintro r w1 ⟨b, rfl, hb, hg⟩
  have HG := hid (HGR.out.trans hg)
  have HB := hid hb
  clear hg hb HF
  go_wp2
  go_ret
  exact ⟨b, rfl, HB.out, HG.out⟩

/-- where the first stands that fits; -1: none does -/
def IdxDone (w w' : World) (T : List TE) (k : List Int) (r : Ending) : Prop :=
  ∃ v : Int, r = .returned (.int .i64 v) ∧ Grew w w' ∧ ((v = -1 ∧ ∀ x ∈ T, ¬ FitsE x k) ∨ ∃ (f : Nat) (x : TE), v = (f : Int) ∧ Hit1 T k f x)

set_option maxHeartbeats 2000000 in
set_option maxRecDepth 20000 in
theorem idx_any {w : World} {B : Nat} {la : Option Addr} {n cap : Nat} {T : List TE} {kb : Nat} {ka : Option Addr} {kn kc : Nat} {k : List Int} (hr : MRow w B la n cap T) (hg : ∀ x ∈ T, x.ks.length = kn ∧ x.ms.length = kn) (hn : n ≤ 100000) (hk : Has .u64 w ka kn k) (hb : w.cell? ⟨kb, 0, none⟩ = some (.slice ka kn kc)) :
    Calls Try.prog 60 #[.slice la n cap, .func (.func 61) #[] #[.pointer (some ⟨kb, 0, none⟩)]] w fun r w' => IdxDone w w' T k r := by
  have HR := hid hr
  have HG := hid hg
  have HK := hid hk
  have HKB := hid hb
  have hlen := hr.len
  clear hr hg hk hb
  go_enter Try.func60, Try.ntmps60
  go_wp2
  go_loopw [8] (fun q wr => ∃ i : Nat, i ≤ n ∧ q = .int .i64 i ∧ Hid (∀ t y, t < i → T[t]? = some y → ¬ FitsE y k) ∧ Hid (Grew w wr)) (fun q _ => n - (intOf q).toNat)
  case atStart => exact ⟨0, Nat.zero_le _, rfl, fun t y ht => absurd ht (Nat.not_lt_zero _), grew_refl _⟩
  case round =>
    obtain ⟨i, hi, rfl, hz, hgr⟩ := hrel
    by_cases hlt : i < n
    · obtain ⟨g, d, y, rfl, hy, hat, hgd, -, -⟩ := (HR.out.step hgr.out.below).at i hlt
      have hxl := HG.out y (List.mem_of_getElem? hy)
      obtain ⟨c0, c1, c2, c3, c4, c5⟩ := hat
      have ek : d.kn = kn := by rw [← hxl.1, hgd.ks.1]
      have em : d.mn = kn := by rw [← hxl.2, hgd.ms.1]
      have q0 := (hgr.out.below.cell (p := ⟨kb, 0, none⟩) (show kb < w.heap.size from World.block_lt_of_cell? w _ HKB.out)).trans HKB.out
      have HC := hid (find1_any hgd em ek (HK.out.step hgr.out.below) q0)
      have hin : (i : Int) < (n : Int) := by omega
      have HY := hid hy
      clear hgd hxl ek em q0 hy
      go_wp2_with fail
      refine HC.out.mono ?_
      rintro r w1 ⟨b, rfl, hb, hg1⟩
      have HG1 := hid (hgr.out.trans hg1)
      cases b with
      | true =>
        have HF : Hid (Hit1 T k i y) := ⟨HY.out, hb.1 rfl, fun t z ht hz' => hz.out t z ht hz'⟩
        clear hg1 hb HC
        go_wp2
        go_ret
        exact ⟨i, rfl, HG1.out, .inr ⟨i, y, rfl, HF.out⟩⟩
      | false =>
        have HF : Hid (∀ t z, t < i + 1 → T[t]? = some z → ¬ FitsE z k) := fun t z ht hz' => by
          by_cases et : t = i
          · subst et
            rw [HY.out] at hz'
            cases hz'
            intro hf
            have := hb.2 hf
            cases this
          · exact hz.out t z (by omega) hz'
        clear hg1 hb HC
        go_wp2
        go_roundw
        case rel => exact ⟨i + 1, by omega, by go_num, HF.out, HG1.out⟩
        case measure => simp [intOf]; omega
    · have ei : i = n := by omega
      subst ei
      have HF : Hid (∀ x ∈ T, ¬ FitsE x k) := fun x hx => by
        obtain ⟨t, ht, rfl⟩ := List.getElem_of_mem hx
        exact hz.out t _ (by omega) (List.getElem?_eq_getElem ht)
      go_wp2
      go_ret
      exact ⟨-1, rfl, hgr.out, .inl ⟨rfl, HF.out⟩⟩
end Go.Proofs.Ytlnkfgdepddmlac
