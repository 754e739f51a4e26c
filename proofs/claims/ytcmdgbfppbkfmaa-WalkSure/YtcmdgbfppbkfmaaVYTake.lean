/- A packet is parsed, by the document: take. -/
import Derived.Test.YtcmdgbfppbkfmaaVYField
import Derived.Deep.CutRange
namespace Go.Proofs.Ytcmdgbfppbkfmaa
open Go.RowKit

/-- what comes of taking from a place on -/
def TakeDone (d : PlanD) (hc : (chkP d.p).1 = 0) (N : Nat) (G : GoD) (w : World) (e : Ending) (w' : World) : Prop := ∃ (ok : Bool) (G' : GoD), e = .returned (.bool ok) ∧ GoAt d G' w' ∧ G'.q = G.q ∧ (∀ B, B ≤ G.q → B ≤ G.th → B ≤ G.vb → Below B w w') ∧ (ok = true → ∃ c, Wk.Wy (parOf d.p hc) d.p.ss.length (thereN G'.T) c ∧ c + G'.b.n = N)

/-- what must be so ahead of it -/
def TakePre (d : PlanD) (hc : (chkP d.p).1 = 0) (N : Nat) (k : Int) (G : GoD) : Prop := ∃ c, c + G.b.n = N ∧ (k = 1000 → Wk.Wy (parOf d.p hc) d.p.ss.length (thereN G.T) c) ∧ (0 ≤ k ∧ k < (d.p.ss.length : Int) → Wk.Wy (parOf d.p hc) k.toNat (thereN G.T) c)

def TakeOk (d : PlanD) (hc : (chkP d.p).1 = 0) (N : Nat) (k : Int) : Prop := ∀ (G : GoD) (w0 w : World), d.lie w0 → (∃ B, w0.heap.size ≤ B ∧ B ≤ G.q ∧ B ≤ G.th ∧ B ≤ G.vb ∧ Below B w0 w) → GoAt d G w → G.b.n ≤ 2000 → TakePre d hc N k G → Calls Try.prog 17 #[.pointer (some ⟨G.q, 0, none⟩), .int .i64 k] w (TakeDone d hc N G w)

set_option maxHeartbeats 4000000 in
set_option maxRecDepth 20000 in
theorem take_end (d : PlanD) (hc : (chkP d.p).1 = 0) (N : Nat) (k : Int) (hk : k = 1000 ∨ k = 1001) : TakeOk d hc N k := by
  intro G w0 w hl hb hg hn hp
  obtain ⟨c, hcn, h1, _⟩ := hp
  rcases hk with rfl | rfl
  · have HE : Hid (TakeDone d hc N G w (.returned (.bool true)) w) := ⟨true, G, rfl, hg, rfl, fun _ _ _ _ => Below.refl _ _, fun _ => ⟨c, h1 rfl, hcn⟩⟩
    clear hl hb hg hn h1 hcn
    go_enter Try.func17, Try.ntmps17
    go_wp2
    go_ret
    exact HE.out
  · have HE : Hid (TakeDone d hc N G w (.returned (.bool false)) w) := ⟨false, G, rfl, hg, rfl, fun _ _ _ _ => Below.refl _ _, fun h => by cases h⟩
    clear hl hb hg hn h1 hcn
    go_enter Try.func17, Try.ntmps17
    go_wp2
    go_ret
    exact HE.out

/-- the state's own block, as take lays it -/
structure StB (x : StateD) (u : Nat) (w : World) : Prop where
  c0 : w.cell? ⟨u, 0, none⟩ = some (.int .i64 x.head)
  c1 : w.cell? ⟨u, 1, none⟩ = some (.int .i64 x.r.h)
  c2 : w.cell? ⟨u, 2, none⟩ = some (.int .i64 x.r.f)
  c3 : w.cell? ⟨u, 3, none⟩ = some (.slice x.cases.a x.cases.n x.cases.c)
  c4 : w.cell? ⟨u, 4, none⟩ = some (.int .i64 x.els)

theorem StB.step {x : StateD} {u : Nat} {w w' : World} (h : StB x u w) (b : Below w.heap.size w w') : StB x u w' := ⟨cell_keep h.c0 b, cell_keep h.c1 b, cell_keep h.c2 b, cell_keep h.c3 b, cell_keep h.c4 b⟩
theorem StB.but {x : StateD} {u g : Nat} {w w' : World} (h : StB x u w) (b : But g w w') (hn : u ≠ g) : StB x u w' := ⟨b.cell hn h.c0, b.cell hn h.c1, b.cell hn h.c2, b.cell hn h.c3, b.cell hn h.c4⟩

/-- where a packet is while a state looks at its cases -/
structure AtCases (d : PlanD) (hc : (chkP d.p).1 = 0) (N : Nat) (k : Nat) (x : StateD) (B : Nat) (w0 w : World) (G G' : GoD) (u : Nat) (w' : World) : Prop where
  go : GoAt d G' w'
  st : StB x u w'
  uq : u ≠ G'.q
  eq : G'.q = G.q ∧ G'.th = G.th ∧ G'.vb = G.vb
  bl : ∀ B, B ≤ G.q → B ≤ G.th → B ≤ G.vb → Below B w w'
  bw : Below B w0 w'
  n : G'.b.n ≤ 2000
  pre : ∀ tz ∈ outsP x.p, TakePre d hc N tz G'

theorem tk4 {w w' : World} {q y u h o : Nat} {v0 v1 v2 v3 : Value} (hh : w.cell? ⟨q, 0, none⟩ = some v0 ∧ w.cell? ⟨y, 0, none⟩ = some v1 ∧ w.cell? ⟨u, 0, none⟩ = some v2 ∧ w.cell? ⟨h, o, none⟩ = some v3) (b : Below w.heap.size w w') : w'.cell? ⟨q, 0, none⟩ = some v0 ∧ w'.cell? ⟨y, 0, none⟩ = some v1 ∧ w'.cell? ⟨u, 0, none⟩ = some v2 ∧ w'.cell? ⟨h, o, none⟩ = some v3 :=
  ⟨cell_keep hh.1 b, cell_keep hh.2.1 b, cell_keep hh.2.2.1 b, cell_keep hh.2.2.2 b⟩

theorem tk4b {w : World} {q y u h o B : Nat} {v0 v1 v2 v3 a b : Value} (nq : q ≠ B) (ny : y ≠ B) (nu : u ≠ B) (nh : h ≠ B) (hh : w.cell? ⟨q, 0, none⟩ = some v0 ∧ w.cell? ⟨y, 0, none⟩ = some v1 ∧ w.cell? ⟨u, 0, none⟩ = some v2 ∧ w.cell? ⟨h, o, none⟩ = some v3) : ((w.setCell ⟨B, 0, none⟩ a).setCell ⟨B, 1, none⟩ b).cell? ⟨q, 0, none⟩ = some v0 ∧ ((w.setCell ⟨B, 0, none⟩ a).setCell ⟨B, 1, none⟩ b).cell? ⟨y, 0, none⟩ = some v1 ∧ ((w.setCell ⟨B, 0, none⟩ a).setCell ⟨B, 1, none⟩ b).cell? ⟨u, 0, none⟩ = some v2 ∧ ((w.setCell ⟨B, 0, none⟩ a).setCell ⟨B, 1, none⟩ b).cell? ⟨h, o, none⟩ = some v3 := by
  have k : But B w ((w.setCell ⟨B, 0, none⟩ a).setCell ⟨B, 1, none⟩ b) := set_but.trans set_but
  exact ⟨k.cell nq hh.1, k.cell ny hh.2.1, k.cell nu hh.2.2.1, k.cell nh hh.2.2.2⟩

theorem tk6 {w w' : World} {q y u h o : Nat} {v0 v1 v2 v3 v4 v5 : Value} (hh : w.cell? ⟨q, 0, none⟩ = some v0 ∧ w.cell? ⟨y, 0, none⟩ = some v1 ∧ w.cell? ⟨u, 0, none⟩ = some v2 ∧ w.cell? ⟨h, o, none⟩ = some v3 ∧ w.cell? ⟨q, 1, none⟩ = some v4 ∧ w.cell? ⟨q, 4, none⟩ = some v5) (b : Below w.heap.size w w') : w'.cell? ⟨q, 0, none⟩ = some v0 ∧ w'.cell? ⟨y, 0, none⟩ = some v1 ∧ w'.cell? ⟨u, 0, none⟩ = some v2 ∧ w'.cell? ⟨h, o, none⟩ = some v3 ∧ w'.cell? ⟨q, 1, none⟩ = some v4 ∧ w'.cell? ⟨q, 4, none⟩ = some v5 :=
  ⟨cell_keep hh.1 b, cell_keep hh.2.1 b, cell_keep hh.2.2.1 b, cell_keep hh.2.2.2.1 b, cell_keep hh.2.2.2.2.1 b, cell_keep hh.2.2.2.2.2 b⟩

theorem tk6b {w w' : World} {q y u h o g : Nat} {v0 v1 v2 v3 v4 v5 : Value} (nq : q ≠ g) (ny : y ≠ g) (nu : u ≠ g) (nh : h ≠ g) (hh : w.cell? ⟨q, 0, none⟩ = some v0 ∧ w.cell? ⟨y, 0, none⟩ = some v1 ∧ w.cell? ⟨u, 0, none⟩ = some v2 ∧ w.cell? ⟨h, o, none⟩ = some v3 ∧ w.cell? ⟨q, 1, none⟩ = some v4 ∧ w.cell? ⟨q, 4, none⟩ = some v5) (b : But g w w') : w'.cell? ⟨q, 0, none⟩ = some v0 ∧ w'.cell? ⟨y, 0, none⟩ = some v1 ∧ w'.cell? ⟨u, 0, none⟩ = some v2 ∧ w'.cell? ⟨h, o, none⟩ = some v3 ∧ w'.cell? ⟨q, 1, none⟩ = some v4 ∧ w'.cell? ⟨q, 4, none⟩ = some v5 :=
  ⟨b.cell nq hh.1, b.cell ny hh.2.1, b.cell nu hh.2.2.1, b.cell nh hh.2.2.2.1, b.cell nq hh.2.2.2.2.1, b.cell nq hh.2.2.2.2.2⟩

theorem has_drop {k : IntKind} {w : World} {b o n : Nat} {zs : List Int} (h : Has k w (some ⟨b, o, none⟩) n zs) {z : Nat} (hz : z ≤ n) : Has k w (some ⟨b, o + z, none⟩) (n - z) (zs.drop z) := by
  refine ⟨by rw [List.length_drop, h.1], fun m hm => h.2.1 m (List.mem_of_mem_drop hm), ?_⟩
  by_cases e : n - z = 0
  · exact .inl (List.eq_nil_of_length_eq_zero (by rw [List.length_drop, h.1]; exact e))
  · obtain ⟨b', o', e', hl, hc⟩ := h.some (by omega)
    simp only [Option.some.injEq, Addr.mk.injEq, and_true] at e'
    obtain ⟨rfl, rfl⟩ := e'
    refine .inr ⟨b, o + z, rfl, hl, fun i hi => ?_⟩
    rw [Nat.add_assoc, hc (z + i) (by omega)]
    simp [List.getD_eq_getElem?_getD, List.getElem?_drop]

theorem has_fst {k : IntKind} {w : World} {a : Option Addr} {n z : Nat} {L : List Int} (h : Has k w a n L) (hz : z ≤ n) : Has k w a z (L.take z) := by
  refine ⟨by rw [List.length_take, h.1]; omega, fun x hx => h.2.1 x (List.mem_of_mem_take hx), ?_⟩
  by_cases h0 : z = 0
  · subst h0; exact .inl (by simp)
  · obtain ⟨g, off, e, hg, hc⟩ := h.some (by omega)
    refine .inr ⟨g, off, e, hg, fun i hi => ?_⟩
    rw [hc i (by omega)]
    simp only [List.getD_eq_getElem?_getD, List.getElem?_take, if_pos hi]

theorem tk5 {w w' : World} {u cg o g : Nat} {v0 v1 v2 v3 v4 : Value} (hu : u ≠ g) (hc : cg ≠ g) (h : w.cell? ⟨u, 1, none⟩ = some v0 ∧ w.cell? ⟨u, 2, none⟩ = some v1 ∧ w.cell? ⟨u, 3, none⟩ = some v2 ∧ w.cell? ⟨cg, o, none⟩ = some v3 ∧ w.cell? ⟨cg, o + 1, none⟩ = some v4) (k : But g w w') : w'.cell? ⟨u, 1, none⟩ = some v0 ∧ w'.cell? ⟨u, 2, none⟩ = some v1 ∧ w'.cell? ⟨u, 3, none⟩ = some v2 ∧ w'.cell? ⟨cg, o, none⟩ = some v3 ∧ w'.cell? ⟨cg, o + 1, none⟩ = some v4 :=
  ⟨k.cell hu h.1, k.cell hu h.2.1, k.cell hu h.2.2.1, k.cell hc h.2.2.2.1, k.cell hc h.2.2.2.2⟩

set_option maxHeartbeats 16000000 in
set_option maxRecDepth 20000 in
theorem take_step (d : PlanD) (hc : (chkP d.p).1 = 0) (N k : Nat) (hk : k < d.p.ss.length) (ih : ∀ tz ∈ outsP (d.p.ss.getD k PState.z), TakeOk d hc N tz) : TakeOk d hc N (k : Int) := by
  intro G w0 w hl0 hB hg hn hp
  obtain ⟨B, hB0, hBq, hBt, hBv, hbl⟩ := hB
  have hl : d.lie w := hl0.step (hbl.mono hB0)
  have en : d.p.ss.length = d.states.n := by simp [PlanD.p, hl.ss.1]
  have hdn : d.p.hs.length = d.heads.n := by simp [PlanD.p, hl.hs.1]
  have h8 : (d.p.ss.length : Int) ≤ 8 := (chk_zero hc 2 (by decide)).2.1
  obtain ⟨sg, so, x, es, hx, hpx⟩ := row_at hl.ss (i := k) (by omega)
  have exx : d.p.ss.getD k PState.z = x.p := p_at hx
  rw [exx] at ih
  have ho : StateOk d.p k x.p := by have := state_ok hc hk; rwa [exx] at this
  obtain ⟨⟨t0, _⟩, ⟨t1, _⟩, ⟨t2, _⟩, ⟨t3, _⟩, ⟨t4, _⟩, hcs⟩ := hpx
  obtain ⟨c, hcn, _, hwy⟩ := hp
  have hwk := hwy ⟨by omega, by omega⟩
  rw [show ((k : Int)).toNat = k by omega] at hwk
  obtain ⟨W1, hW1⟩ : ∃ W1, W1 = w.alloc (.cells #[.int .i64 x.head, .int .i64 x.r.h, .int .i64 x.r.f, .slice x.cases.a x.cases.n x.cases.c, .int .i64 x.els] 54) := ⟨_, rfl⟩
  obtain ⟨u, hu⟩ : ∃ u, u = w.heap.size := ⟨_, rfl⟩
  have b1 : Below w.heap.size w W1 := by rw [hW1]; exact bl_alloc (Below.refl _ _)
  have hst : StB x u W1 := by
    rw [hW1, hu]
    refine ⟨?_, ?_, ?_, ?_, ?_⟩ <;> exact (World.cell?_alloc_at _ _ _ _ rfl).trans rfl
  have HCS : Hid (∀ w', d.lie w' → QRow 3 CaseD.lie w' x.cases x.cs) := fun w' h => by
    obtain ⟨_, _, x2, _, hx2, hp2⟩ := row_at h.ss (i := k) (by omega)
    obtain rfl : x = x2 := by rw [hx] at hx2; exact Option.some.inj hx2
    exact hp2.2.2.2.2.2
  have HCQ : Hid (∀ cg co, x.cases.a = some ⟨cg, co, none⟩ → 0 < x.cases.n → cg ≠ G.q) := fun cg co e h0 => by
    obtain ⟨cg', co', y, e', _, hy⟩ := row_at (HCS.out w0 hl0) h0
    rw [e] at e'
    simp only [Option.some.injEq, Addr.mk.injEq] at e'
    have h1 : cg' < w0.heap.size := World.block_lt_of_cell? _ _ hy.1.1
    omega
  have HL0 := hid hl0
  have HLW : Hid (∀ w', Below B w0 w' → d.lie w') := fun w' h => hl0.step (h.mono hB0)
  have HBQ : Hid (B ≤ G.q ∧ B ≤ G.th ∧ B ≤ G.vb) := ⟨hBq, hBt, hBv⟩
  have HBB : Hid (∀ (G' : GoD) w', AtCases d hc N k x B w0 w G G' u w' → ∃ B, w0.heap.size ≤ B ∧ B ≤ G'.q ∧ B ≤ G'.th ∧ B ≤ G'.vb ∧ Below B w0 w') := fun G' w' h => ⟨B, hB0, by rw [h.eq.1]; exact hBq, by rw [h.eq.2.1]; exact hBt, by rw [h.eq.2.2]; exact hBv, h.bw⟩
  have HDN := hid hdn
  have HON : Hid (0 < x.cases.n → d.p.width x.r [] ≠ 0) := fun h => ho.on (by show 0 < x.cs.length; rw [hcs.1]; exact h)
  have hql := hg.qlt
  have huq : u ≠ G.q := by omega
  have z2 := hg.box.2.2.1
  have q0 := hg.c0
  rw [es] at z2
  have hki : (k : Int) < (d.states.n : Int) := by omega
  have hk0 : (0 : Int) ≤ (k : Int) := by omega
  have k1 : ((k : Int) == 1000) = false := by rw [beq_eq_false_iff_ne]; omega
  have k2 : ((k : Int) == 1001) = false := by rw [beq_eq_false_iff_ne]; omega
  have hc4 : x.cases.n ≤ 4 := by have h1 : x.cs.length ≤ 4 := ho.few; have := hcs.1; omega
  have HI := hid ih
  have EW := hid hW1
  have EU := hid hu
  by_cases hh : x.head < 0
  · have hhd : decide (0 ≤ x.head) = false := decide_eq_false (by omega)
    have HZ : Hid ((parOf d.p hc).hb k = 0 ∧ (parOf d.p hc).sz k = 0) := by
      show bitN (d.p.ss.getD k PState.z).head = 0 ∧ szP d.p (d.p.ss.getD k PState.z) = 0
      rw [exx]
      exact ⟨by unfold bitN; rw [if_pos (show x.p.head < 0 from hh)], by unfold szP; rw [if_pos (show x.p.head < 0 from hh)]⟩
    obtain ⟨G1, hG1⟩ : ∃ G1, G1 = G := ⟨_, rfl⟩
    have HAT : Hid (AtCases d hc N k x B w0 w G G1 u W1) := by
      rw [hG1]
      refine ⟨hg.step b1, hst, huq, ⟨rfl, rfl, rfl⟩, fun B' h1 h2 h3 => b1.mono (by omega), hbl.trans (b1.mono (by omega)), hn, fun tz htz => ⟨c, hcn, ?_, ?_⟩⟩
      · intro e
        have := Wk.Wy.step (j := d.p.ss.length) hwk (show k < (parOf d.p hc).n from hk) (by
          show d.p.ss.length ∈ leadP d.p.ss.length (outsP (d.p.ss.getD k PState.z))
          rw [exx]
          exact mem_leadP.2 ⟨tz, htz, by omega, by unfold tgtN; rw [if_pos e]⟩)
        rwa [HZ.out.1, HZ.out.2, Nat.or_zero, Nat.add_zero] at this
      · intro e
        have := Wk.Wy.step (j := tz.toNat) hwk (show k < (parOf d.p hc).n from hk) (by
          show tz.toNat ∈ leadP d.p.ss.length (outsP (d.p.ss.getD k PState.z))
          rw [exx]
          exact mem_leadP.2 ⟨tz, htz, by omega, by unfold tgtN; rw [if_neg (by omega)]⟩)
        rwa [HZ.out.1, HZ.out.2, Nat.or_zero, Nat.add_zero] at this
    clear hl hl0 hB0 hbl hg hn en exx hx hst hcs b1 hW1 hu hwk hwy ih
    go_enter Try.func17, Try.ntmps17
    go_wp2_with fail
    rw [← EW.out, ← EU.out]
    clear EW EU t0 t1 t2 t3 t4 z2 q0
    go_loopw [8] (fun qv wr => ∃ (j : Nat) (G2 : GoD), j ≤ x.cases.n ∧ qv = .int .i64 j ∧ Hid (AtCases d hc N k x B w0 w G G2 u wr)) (fun qv _ => x.cases.n - (intOf qv).toNat)
    case atStart => exact ⟨0, G1, Nat.zero_le _, rfl, HAT⟩
    case round =>
      obtain ⟨j, G2, hj, rfl, HA2⟩ := hrel
      clear HAT
      have eq2 := HA2.out.eq.1
      have s1 := HA2.out.st.c1
      have s2 := HA2.out.st.c2
      have s3 := HA2.out.st.c3
      have s4 := HA2.out.st.c4
      by_cases hlt : j < x.cases.n
      · have hji : (j : Int) < (x.cases.n : Int) := by omega
        have hj0 : (0 : Int) ≤ (j : Int) := by omega
        obtain ⟨cg, co, c, eca, hcj, ⟨v0, _⟩, ⟨v1, _⟩, ⟨v2, _⟩⟩ := row_at (HCS.out wr (HLW.out wr HA2.out.bw)) hlt
        rw [eca] at s3
        have hcq : cg ≠ G.q := HCQ.out cg co eca (by omega)
        have huq : u ≠ G.q := by have := HA2.out.uq; rw [eq2] at this; exact this
        have hbd : Below wr.heap.size wr wr.drew := (Below.refl _ _).drew
        have HFI := hid (gfield_any (HA2.out.go.step hbd) HDN.out x.r (HON.out (by omega)))
        rw [eq2] at HFI
        have HTO : Hid (c.to ∈ outsP x.p) := List.mem_append_left _ (List.mem_map.2 ⟨c, List.mem_of_getElem? hcj, rfl⟩)
        have HKD : Hid (But G.q wr wr.drew) := But.of hbd (by have := HA2.out.go.qlt; rw [eq2] at this; omega)
        clear hbd hcj eca
        go_wp2_with fail
        go_region_held3 (fun w' => w'.cell? ⟨u, 1, none⟩ = some (.int .i64 x.r.h) ∧ w'.cell? ⟨u, 2, none⟩ = some (.int .i64 x.r.f) ∧ w'.cell? ⟨u, 3, none⟩ = some (.slice (some ⟨cg, co, none⟩) x.cases.n x.cases.c) ∧ w'.cell? ⟨cg, co + j * 3, none⟩ = some (.int .u64 c.value) ∧ w'.cell? ⟨cg, co + j * 3 + 1, none⟩ = some (.int .u64 c.mask))
          (first
            | (go_split_ands; with_reducible exact tk5 huq hcq ⟨by assumption, by assumption, by assumption, by assumption, by assumption⟩ hk4)
            | go_keep)
          (first | (go_at_call 33; refine HFI.out.mono ?_; rintro e w4 ⟨n4, x4, rfl, hn4, hg4, hk4⟩; rw [eq2] at hk4))
        have hkw : But G.q wr w4 := HKD.out.trans hk4
        have HA4 : Hid (AtCases d hc N k x B w0 w G { G2 with gone := x4 } u w4) := ⟨hg4, HA2.out.st.but hkw huq, HA2.out.uq, HA2.out.eq, fun B' h1 h2 h3 => (HA2.out.bl B' h1 h2 h3).trans (hkw.low.mono h1), HA2.out.bw.trans (hkw.low.mono HBQ.out.1), HA2.out.n, HA2.out.pre⟩
        have p2 := hkw.cell hcq v2
        have p3 := hkw.cell huq s3
        rename_i hHeld
        clear hHeld HFI HKD hg4 hk4 hkw HA2 s1 s2 s3 s4 v0 v1 v2
        have eq4 : ({ G2 with gone := x4 } : GoD).q = G.q := eq2
        generalize ({ G2 with gone := x4 } : GoD) = G4 at *
        obtain ⟨Bq, hBe⟩ : ∃ Bq, Bq = (bits .and .u64 n4 c.mask == c.value) := ⟨_, rfl⟩
        rw [← hBe]
        clear hBe hn4
        cases Bq with
        | true =>
          have HT := hid (HI.out c.to HTO.out G4 w0 w4 HL0.out (HBB.out G4 w4 HA4.out) HA4.out.go HA4.out.n (HA4.out.pre _ HTO.out))
          rw [eq4] at HT
          go_wp2_with fail
          refine HT.out.mono ?_
          rintro e w5 ⟨ok, G5, rfl, hg5, hq5, hb5, hw5⟩
          have HE : Hid (TakeDone d hc N G w (.returned (.bool ok)) w5) := ⟨ok, G5, rfl, hg5, hq5.trans eq4, fun B' h1 h2 h3 => (HA4.out.bl B' h1 h2 h3).trans (hb5 B' (by rw [HA4.out.eq.1]; exact h1) (by rw [HA4.out.eq.2.1]; exact h2) (by rw [HA4.out.eq.2.2]; exact h3)), hw5⟩
          clear HT hg5 hq5 hb5 hw5 HA4 p2 p3
          go_wp2
          go_ret
          exact HE.out
        | false =>
          clear p2 p3
          go_wp2
          go_roundw
          case rel => exact ⟨j + 1, G4, by omega, by go_num, HA4⟩
          case measure => simp [intOf]; omega
      · have hji : ¬ (j : Int) < (x.cases.n : Int) := by omega
        have HTE : Hid (x.els ∈ outsP x.p) := List.mem_append_right _ List.mem_cons_self
        have HT := hid (HI.out x.els HTE.out G2 w0 wr HL0.out (HBB.out G2 wr HA2.out) HA2.out.go HA2.out.n (HA2.out.pre _ HTE.out))
        rw [eq2] at HT
        go_wp2_with fail
        refine HT.out.mono ?_
        rintro e w5 ⟨ok, G5, rfl, hg5, hq5, hb5, hw5⟩
        have HE : Hid (TakeDone d hc N G w (.returned (.bool ok)) w5) := ⟨ok, G5, rfl, hg5, hq5.trans eq2, fun B' h1 h2 h3 => (HA2.out.bl B' h1 h2 h3).trans (hb5 B' (by rw [HA2.out.eq.1]; exact h1) (by rw [HA2.out.eq.2.1]; exact h2) (by rw [HA2.out.eq.2.2]; exact h3)), hw5⟩
        clear HT hg5 hq5 hb5 hw5 HA2 s1 s2 s3 s4
        go_wp2
        go_ret
        exact HE.out
  · have hh0 : 0 ≤ x.head := by omega
    have hhd : decide (0 ≤ x.head) = true := decide_eq_true hh0
    have hhn : x.head < (d.heads.n : Int) := by have h1 : x.head = -1 ∨ 0 ≤ x.head ∧ x.head < (d.p.hs.length : Int) := ho.head; omega
    obtain ⟨hbk, hbo, hdd, eh, hxh, hph⟩ := row_at hl.hs (i := x.head.toNat) (by omega)
    rw [Nat.mul_one] at hph
    have ews : d.p.hs.getD x.head.toNat [] = hdd.ws := map_getD hxh _
    have hzc : sizeC hdd.ws = 0 := by have : sizeC (d.p.hs.getD x.head.toNat []) = 0 := (chk_zero hc 0 (by decide)).2.2 _ (by show _ < d.p.hs.length; omega); rwa [ews] at this
    have hb0 : hbk < w0.heap.size := by
      obtain ⟨g', o', y, e', _, hy⟩ := row_at hl0.hs (i := x.head.toNat) (by omega)
      rw [eh] at e'
      simp only [Option.some.injEq, Addr.mk.injEq] at e'
      have h1 : g' < w0.heap.size := World.block_lt_of_cell? _ _ hy.1.1
      omega
    obtain ⟨Z, hZ⟩ : ∃ Z, Z = sizeN hdd.ws := ⟨_, rfl⟩
    have hZs : szP d.p x.p = Z := by unfold szP; rw [if_neg (show ¬ x.p.head < 0 from hh)]; show sizeN (d.p.hs.getD x.head.toNat []) = _; rw [ews, hZ]
    have hZ32 : Z ≤ 32 := by rw [hZ]; have := sizeN_le hc x.head.toNat; rwa [ews] at this
    have HHD : Hid (∀ w', Below B w0 w' → w'.cell? ⟨hbk, hbo + x.head.toNat, none⟩ = some (.slice hdd.w.a hdd.w.n hdd.w.c) ∧ Has .i64 w' hdd.w.a hdd.w.n hdd.ws) := fun w' h => by
      obtain ⟨g', o', y, e', hy, hpy⟩ := row_at (HLW.out w' h).hs (i := x.head.toNat) (by omega)
      rw [eh] at e'
      simp only [Option.some.injEq, Addr.mk.injEq, and_true] at e'
      obtain rfl : hdd = y := by rw [hxh] at hy; exact Option.some.inj hy
      obtain ⟨rfl, rfl⟩ := e'
      rw [Nat.mul_one] at hpy
      exact ⟨hpy.1.1, hpy.2⟩
    have HSZ : Hid (∀ w', Below B w0 w' → Calls Try.prog 31 #[.agg #[.slice hdd.w.a hdd.w.n hdd.w.c]] w' fun e w'' => e = .returned (.tuple #[.int .i64 (Z : Int), .agg #[.int .i64 0, .int .i64 0]]) ∧ Below w'.heap.size w' w'') := fun w' h => by
      have := rsize_good hdd.w.a hdd.w.n hdd.w.c hdd.ws w' (HHD.out w' h).2 hzc
      rw [← hZ] at this
      exact this
    have hbw1 : Below B w0 W1 := hbl.trans (b1.mono (by omega))
    have hg1 := hg.step b1
    have HG1 := hid hg1
    have HST := hid hst
    have HBW1 := hid hbw1
    have g0 := hg1.c0
    have y0 := hg1.box.1
    have u0 := hst.c0
    have hd0 := (HHD.out W1 hbw1).1
    rw [eh] at y0
    have hqb : B ≤ W1.heap.size := Nat.le_trans hBq (Nat.le_of_lt hg1.qlt)
    have HD1 : Hid (Below W1.heap.size W1 W1.drew) := (Below.refl _ _).drew
    have HD2 : Hid (Below W1.heap.size W1 (W1.alloc (.cells #[.int .i64 0, .int .i64 0] 35)).drew) := (bl_alloc (Below.refl _ _)).drew
    have HCUR : Hid (Below B w0 W1.drew) := hbw1.drew
    have HCU2 : Hid (Below B w0 (W1.alloc (.cells #[.int .i64 0, .int .i64 0] 35)).drew) := (hbw1.alloc hqb _).drew
    have HFC : Hid (∀ wx, Below (W1.alloc (.cells #[.int .i64 0, .int .i64 0] 35)).drew.heap.size (W1.alloc (.cells #[.int .i64 0, .int .i64 0] 35)).drew wx → wx.cell? ⟨W1.heap.size, 0, none⟩ = some (.int .i64 0) ∧ wx.cell? ⟨W1.heap.size, 1, none⟩ = some (.int .i64 0) ∧ wx.frozen? ⟨W1.heap.size, 0, none⟩ = false ∧ wx.frozen? ⟨W1.heap.size, 1, none⟩ = false) := fun wx h => by
      have hl9 : W1.heap.size < (W1.alloc (.cells #[.int .i64 0, .int .i64 0] 35)).drew.heap.size := by simp
      exact ⟨(h.cell (p := ⟨W1.heap.size, 0, none⟩) hl9).trans ((World.cell?_alloc_at _ _ _ _ rfl).trans rfl), (h.cell (p := ⟨W1.heap.size, 1, none⟩) hl9).trans ((World.cell?_alloc_at _ _ _ _ rfl).trans rfl), (h.frozen (p := ⟨W1.heap.size, 0, none⟩) hl9).trans (World.frozen?_alloc_at _ _ _ _ rfl), (h.frozen (p := ⟨W1.heap.size, 1, none⟩) hl9).trans (World.frozen?_alloc_at _ _ _ _ rfl)⟩
    have HVU : Hid (G.vb < u ∧ G.th < u) := by have h1 := hg.vlt; have h2 := hg.tlt; show G.vb < u ∧ G.th < u; omega
    have HZE := hid hZ
    have HZC := hid hzc
    have HZS := hid hZs
    have HEW := hid ews
    have HBN := hid hn
    have HB1 := hid b1
    have HXX := hid exx
    have HWK := hid hwk
    have HCN := hid hcn
    have HBK := hid hb0
    clear hl hl0 hbl hg hn en hx hst hcs hW1 hu hwy ih hg1 hbw1 hxh hph hzc hZ hZs ews b1 exx hwk hcn
    go_enter Try.func17, Try.ntmps17
    go_upto_region 5 with fail
    rw [← EW.out, ← EU.out]
    clear EW EU t0 t1 t2 t3 t4 z2 q0
    go_cut [6, 7] from 31 to 46 (fun v6 v7 wx => ∃ p, v6 = .int .i64 (Z : Int) ∧ v7 = .pointer p ∧ Hid (Below W1.heap.size W1 wx))
    case first =>
      have HT0 : Hid (W1.drew.cell? ⟨G.q, 0, none⟩ = some (.pointer (some ⟨G.yb, 0, none⟩)) ∧ W1.drew.cell? ⟨G.yb, 0, none⟩ = some (.slice (some ⟨hbk, hbo, none⟩) d.heads.n d.heads.c) ∧ W1.drew.cell? ⟨u, 0, none⟩ = some (.int .i64 x.head) ∧ W1.drew.cell? ⟨hbk, hbo + x.head.toNat, none⟩ = some (.slice hdd.w.a hdd.w.n hdd.w.c)) := ⟨g0, y0, u0, hd0⟩
      have nq : G.q ≠ W1.heap.size := Nat.ne_of_lt HG1.out.qlt
      have ny : G.yb ≠ W1.heap.size := Nat.ne_of_lt (World.block_lt_of_cell? _ _ HG1.out.box.1)
      have nu : u ≠ W1.heap.size := Nat.ne_of_lt (World.block_lt_of_cell? _ _ HST.out.c0)
      have nh : hbk ≠ W1.heap.size := Nat.ne_of_lt (World.block_lt_of_cell? _ _ hd0)
      go_region_held3 (fun w' => w'.cell? ⟨G.q, 0, none⟩ = some (.pointer (some ⟨G.yb, 0, none⟩)) ∧ w'.cell? ⟨G.yb, 0, none⟩ = some (.slice (some ⟨hbk, hbo, none⟩) d.heads.n d.heads.c) ∧ w'.cell? ⟨u, 0, none⟩ = some (.int .i64 x.head) ∧ w'.cell? ⟨hbk, hbo + x.head.toNat, none⟩ = some (.slice hdd.w.a hdd.w.n hdd.w.c))
        (first
          | with_reducible exact HT4
          | with_reducible exact tk4b nq ny nu nh HT4
          | with_reducible exact HT0.out
          | with_reducible exact tk4 HT4 (bl_alloc (Below.refl _ _))
          | (go_split_ands; with_reducible exact tk4 ⟨by assumption, by assumption, by assumption, by assumption⟩ (bl_alloc (Below.refl _ _))))
        (first
          | (go_at_call 31; (with_reducible refine (HSZ.out _ HCUR.out).mono ?_); rintro e wx ⟨rfl, hbx⟩; have HT4 := tk4 ⟨g0, y0, u0, hd0⟩ (bl_step HD1.out hbx))
          | (go_at_call 31; (with_reducible refine (HSZ.out _ HCU2.out).mono ?_); rintro e wx ⟨rfl, hbx⟩; obtain ⟨j0, j1, j2, j3⟩ := HFC.out wx hbx; have HT4 := tk4 ⟨g0, y0, u0, hd0⟩ (bl_step HD2.out hbx)))
      · go_wp2_with fail
        go_meet
        exact ⟨_, rfl, rfl, bl_alloc (bl_step HD1.out hbx)⟩
      · go_wp2_with fail
        go_meet
        exact ⟨_, rfl, rfl, ((bl_step HD2.out hbx).setCell (p := ⟨W1.heap.size, 0, none⟩) (Nat.le_refl _) _).setCell (p := ⟨W1.heap.size, 1, none⟩) (Nat.le_refl _) _⟩
    case rest =>
      obtain ⟨p, rfl, rfl, HBC⟩ := hcut
      have HBCS : Hid (W1.heap.size ≤ wc.heap.size) := HBC.out.size
      have hgc := HG1.out.step HBC.out
      have hstc := HST.out.step HBC.out
      have hbwc : Below B w0 wc := HBW1.out.trans (HBC.out.mono hqb)
      have HWC : Hid (Below w.heap.size w wc) := bl_step HB1.out HBC.out
      have q1 := hgc.c1
      clear HSZ HCUR HCU2 HFC HD1 HD2 g0 y0 u0 hd0
      by_cases hz : G.b.n < Z
      · have hzi : (G.b.n : Int) < (Z : Int) := by omega
        have HE : Hid (TakeDone d hc N G w (.returned (.bool false)) wc) := ⟨false, G, rfl, hgc, rfl, fun B' h1 _ _ => HWC.out.mono (by omega), fun h => by cases h⟩
        clear HBC HG1 HST HBW1 hgc hstc hbwc HWC
        go_wp2
        go_ret
        exact HE.out
      · have hzi : ¬ (G.b.n : Int) < (Z : Int) := by omega
        have hZ1 : 1 ≤ Z := by
          obtain ⟨h1, h8', hf, h3, h4⟩ := sizeC_good HZC.out
          have e := HZE.out
          unfold sizeN at e
          have hf0 := hf 0 (by omega)
          have hm0 := Mth.off_mono hdd.ws 1 hdd.ws.length (by omega)
          have ho1 : Mth.off hdd.ws 1 = (hdd.ws.getD 0 0).toNat := by show 0 + _ = _; rw [Nat.zero_add]
          have hf1 : 1 ≤ hdd.ws.getD 0 0 := hf0.1
          omega
        obtain ⟨bb, bo, eb, _, hbcell⟩ := hgc.hb.some (by omega)
        have g0 := hgc.c0
        have y0 := hgc.box.1
        have u0 := hstc.c0
        have hd0 := (HHD.out wc hbwc).1
        have q4 := hgc.c4
        rw [eh] at y0
        rw [eb] at q1
        rw [hgc.va.1, hgc.va.2 (by omega)] at q4
        have hzc' : (Z : Int) ≤ (G.b.c : Int) := by have := hgc.bc; omega
        have hz0 : (0 : Int) ≤ (Z : Int) := by omega
        have HPA : Hid (Calls Try.prog 32 #[.slice (some ⟨bb, bo, none⟩) Z G.b.c, .int .i64 0, .slice hdd.w.a hdd.w.n hdd.w.c] wc.drew fun e w' => ∃ g cap', e = .returned (.tuple #[.slice g hdd.w.n cap', .agg #[.int .i64 0, .int .i64 0]]) ∧ (∃ zs, Has .u64 w' g hdd.w.n zs) ∧ Below wc.drew.heap.size wc.drew w') := by
          obtain ⟨h1, h8', hf, h3, h4⟩ := sizeC_good HZC.out
          have e := HZE.out
          unfold sizeN at e
          have hwn := (HHD.out wc hbwc).2
          have hlw : hdd.ws.length = hdd.w.n := hwn.1
          have hbu := hgc.hb
          rw [eb] at hbu
          refine (rpart_good (some ⟨bb, bo, none⟩) hdd.w.a Z G.b.c hdd.w.n hdd.w.c 0 (G.bs.take Z) hdd.ws wc.drew (by omega) (by omega) ((has_fst hbu (by omega)).step (Below.refl _ _).drew) (hwn.step (Below.refl _ _).drew) (fun j hj => ?_)).mono (fun e w' ⟨g, cap', h1, h2, h3⟩ => ⟨g, cap', h1, ⟨_, h2⟩, h3⟩)
          have hfj := hf j (by omega)
          have hf1 : 1 ≤ hdd.ws.getD j 0 := hfj.1
          have hf2 : hdd.ws.getD j 0 ≤ 48 := hfj.2
          have hm1 := Mth.off_mono hdd.ws (j + 1) hdd.ws.length (by omega)
          have ho1 : Mth.off hdd.ws (j + 1) = Mth.off hdd.ws j + (hdd.ws.getD j 0).toNat := rfl
          unfold codeOf
          rw [if_neg (by omega), if_neg (by omega)]
        have HVS : Hid (∀ w', GoAt d G w' → ∃ sl : QSl, w'.cell? ⟨G.vb, x.head.toNat, none⟩ = some (.slice sl.a sl.n sl.c) ∧ w'.frozen? ⟨G.vb, x.head.toNat, none⟩ = false) := fun w' h => by
          have hil : x.head.toNat < G.V.length := by rw [h.vl]; omega
          exact ⟨_, (h.vs _ _ (List.getElem?_eq_getElem hil)).1, h.vf _⟩
        have HGC := hid hgc
        have HSC := hid hstc
        have HBWC := hid hbwc
        have HDC : Hid (Below wc.heap.size wc wc.drew) := (Below.refl _ _).drew
        have mq : G.q ≠ G.vb := hgc.qv
        have my : G.yb ≠ G.vb := Ne.symm hgc.vy
        have mu : u ≠ G.vb := by have h1 := HVU.out; omega
        have mh : hbk ≠ G.vb := by have h1 := HBK.out; omega
        have EB := hid eb
        have HBCL := hid hbcell
        clear hgc hstc hbwc HBC HG1 HST HBW1 eb hbcell
        go_wp2_with fail
        go_region_held3 (fun w' => w'.cell? ⟨G.q, 0, none⟩ = some (.pointer (some ⟨G.yb, 0, none⟩)) ∧ w'.cell? ⟨G.yb, 0, none⟩ = some (.slice (some ⟨hbk, hbo, none⟩) d.heads.n d.heads.c) ∧ w'.cell? ⟨u, 0, none⟩ = some (.int .i64 x.head) ∧ w'.cell? ⟨hbk, hbo + x.head.toNat, none⟩ = some (.slice hdd.w.a hdd.w.n hdd.w.c) ∧ w'.cell? ⟨G.q, 1, none⟩ = some (.slice (some ⟨bb, bo, none⟩) G.b.n G.b.c) ∧ w'.cell? ⟨G.q, 4, none⟩ = some (.slice (some ⟨G.vb, 0, none⟩) d.heads.n G.va.c))
          (first
            | with_reducible exact HT6
            | with_reducible exact tk6b mq my mu mh HT6 set_but
            | (go_split_ands; with_reducible exact tk6 ⟨by assumption, by assumption, by assumption, by assumption, by assumption, by assumption⟩ hb6)
            | go_keep)
          (first
            | (go_at_call 32; (with_reducible refine HPA.out.mono ?_); rintro e w6 ⟨pg, pc, rfl, hz6, hb6⟩; have HT6 := tk6 ⟨g0, y0, u0, hd0, q1, q4⟩ (bl_step HDC.out hb6); have HG6 := hid (HGC.out.step (bl_step HDC.out hb6)); obtain ⟨sl6, cv6, fv6⟩ := HVS.out w6 HG6.out))
        obtain ⟨zs6, hz6⟩ := hz6
        have hWN : hdd.w.n = (d.p.hs.getD x.head.toNat []).length := by rw [HEW.out]; exact (HHD.out wc HBWC.out).2.1.symm
        obtain ⟨W7, hW7⟩ : ∃ W7, W7 = w6.setCell ⟨G.vb, x.head.toNat, none⟩ (.slice pg hdd.w.n pc) := ⟨_, rfl⟩
        have HG7 : Hid (GoAt d { G with V := G.V.set x.head.toNat (⟨pg, hdd.w.n, pc⟩, zs6) } W7) := by rw [hW7]; exact HG6.out.setNums x.head.toNat (by omega) ⟨pg, hdd.w.n, pc⟩ zs6 hz6 hWN
        have k7 : But G.vb w6 W7 := by rw [hW7]; exact set_but
        have b6 : Below wc.heap.size wc w6 := bl_step HDC.out hb6
        have HS7 : Hid (StB x u W7) := (HSC.out.step b6).but k7 mu
        have HB7 : Hid (∀ B', B' ≤ G.q → B' ≤ G.th → B' ≤ G.vb → Below B' w W7) := fun B' h1 h2 h3 => ((bl_step HWC.out b6).mono (by omega)).trans (k7.low.mono h3)
        have HW7 : Hid (Below B w0 W7) := (HBWC.out.trans (b6.mono (Nat.le_trans hqb HBCS.out))).trans (k7.low.mono hBv)
        rw [← hW7]
        rename_i hHeld
        clear hHeld HPA HVS HGC HSC HBWC HDC HG6 HT6 hb6 hz6 cv6 fv6 g0 y0 u0 hd0 q1 q4 hW7 k7 b6 HWC
        generalize hG7 : ({ G with V := G.V.set x.head.toNat (⟨pg, hdd.w.n, pc⟩, zs6) } : GoD) = G7 at HG7
        have e7 : G7.q = G.q ∧ G7.th = G.th ∧ G7.vb = G.vb ∧ G7.b = G.b ∧ G7.bs = G.bs ∧ G7.T = G.T := by rw [← hG7]; exact ⟨rfl, rfl, rfl, rfl, rfl, rfl⟩
        clear hG7
        obtain ⟨e7q, e7t, e7v, e7b, e7s, e7T⟩ := e7
        have c3 := HG7.out.c3
        have u0 := HS7.out.c0
        have hil : x.head.toNat < G.T.length := by have := HG7.out.tl; rw [e7T] at this; omega
        have ct := HG7.out.ts x.head.toNat G.T[x.head.toNat] (by rw [e7T]; exact List.getElem?_eq_getElem hil)
        have ft := HG7.out.tf x.head.toNat
        rw [e7q, e7t] at c3
        rw [e7t] at ct ft
        generalize G.T[x.head.toNat] = tb at *
        have E7 := hid (And.intro e7q (And.intro e7t (And.intro e7v (And.intro e7b (And.intro e7s e7T)))))
        clear e7q e7t e7v e7b e7s e7T
        go_wp2_with fail
        go_region
        all_goals
          obtain ⟨W8, hW8⟩ : ∃ W8, W8 = (W7.setCell ⟨G.th, x.head.toNat, none⟩ (.bool true)).drew := ⟨_, rfl⟩
          have k8 : But G.th W7 W8 := by
            rw [hW8]
            have h0 : But G.th (W7.setCell ⟨G.th, x.head.toNat, none⟩ (.bool true)) (W7.setCell ⟨G.th, x.head.toNat, none⟩ (.bool true)).drew := ⟨(Below.refl _ _).drew, fun _ _ _ => rfl⟩
            exact set_but.trans h0
          have HG8 : Hid (GoAt d { G7 with T := G7.T.set x.head.toNat true } W8) := by
            rw [hW8, ← E7.out.2.1]
            exact (HG7.out.setThere x.head.toNat (by omega) true).step (Below.refl _ _).drew
          rw [← hW8]
          have hgb := HG8.out
          have q1 := HG8.out.c1
          have f1 := HG8.out.fq 1
          have ebn : ({ G7 with T := G7.T.set x.head.toNat true } : GoD).b = G.b := E7.out.2.2.2.1
          have ebs : ({ G7 with T := G7.T.set x.head.toNat true } : GoD).bs = G.bs := E7.out.2.2.2.2.1
          have ebq : ({ G7 with T := G7.T.set x.head.toNat true } : GoD).q = G.q := E7.out.1
          rw [ebn, ebq, EB.out] at q1
          rw [ebq] at f1
          have hbcc : G.b.n ≤ G.b.c := by have := HG8.out.bc; rwa [ebn] at this
          have nth : u ≠ G.th := by have := HVU.out; omega
          have HPR : Hid (∀ tz ∈ outsP x.p, ∀ G1 : GoD, G1.T = G.T.set x.head.toNat true → G1.b.n = G.b.n - Z → TakePre d hc N tz G1) := fun tz htz G1 eT en9 => by
            have hbit : (parOf d.p hc).hb k = 2 ^ x.head.toNat := by show bitN (d.p.ss.getD k PState.z).head = _; rw [HXX.out]; unfold bitN; rw [if_neg (by show ¬ x.head < 0; omega)]; rfl
            have hsz : (parOf d.p hc).sz k = Z := by show szP d.p (d.p.ss.getD k PState.z) = _; rw [HXX.out]; exact HZS.out
            have hm : thereN G1.T = thereN G.T ||| 2 ^ x.head.toNat := by rw [eT]; exact thereN_set hil
            refine ⟨c + Z, by rw [en9]; have := HCN.out; omega, fun e => ?_, fun e => ?_⟩
            · have := Wk.Wy.step (j := d.p.ss.length) HWK.out (show k < (parOf d.p hc).n from hk) (by
                show d.p.ss.length ∈ leadP d.p.ss.length (outsP (d.p.ss.getD k PState.z))
                rw [HXX.out]
                exact mem_leadP.2 ⟨tz, htz, by omega, by unfold tgtN; rw [if_pos e]⟩)
              rw [hbit, hsz, ← hm] at this
              exact this
            · have := Wk.Wy.step (j := tz.toNat) HWK.out (show k < (parOf d.p hc).n from hk) (by
                show tz.toNat ∈ leadP d.p.ss.length (outsP (d.p.ss.getD k PState.z))
                rw [HXX.out]
                exact mem_leadP.2 ⟨tz, htz, by omega, by unfold tgtN; rw [if_neg (by omega)]⟩)
              rw [hbit, hsz, ← hm] at this
              exact this
          by_cases hcap : G.b.c = Z
          case' pos =>
            obtain ⟨W9, hW9⟩ : ∃ W9, W9 = W8.setCell ⟨G.q, 1, none⟩ (.slice (some ⟨bb, bo, none⟩) (G.b.n - Z) 0) := ⟨_, rfl⟩
            have hs9 : Has .u8 W8 (some ⟨bb, bo, none⟩) (G.b.n - Z) ([]) := ⟨by simp; omega, by simp, .inl rfl⟩
            obtain ⟨G1, hG1⟩ : ∃ G1, G1 = ({ ({ G7 with T := G7.T.set x.head.toNat true } : GoD) with b := ⟨some ⟨bb, bo, none⟩, G.b.n - Z, 0⟩, bs := [] } : GoD) := ⟨_, rfl⟩
            have hg9 : GoAt d G1 W9 := by
              rw [hG1, hW9, ← E7.out.1]
              exact HG8.out.setBytes ⟨some ⟨bb, bo, none⟩, G.b.n - Z, 0⟩ ([]) hs9 (show G.b.n - Z ≤ 0 by omega)
            have k9 : But G.q W8 W9 := by rw [hW9]; exact set_but
            have HAT : Hid (AtCases d hc N k x B w0 w G G1 u W9) := by
              have eT : G1.T = G.T.set x.head.toNat true := by rw [hG1]; show G7.T.set _ _ = _; rw [E7.out.2.2.2.2.2]
              have en9 : G1.b.n = G.b.n - Z := by rw [hG1]
              refine ⟨hg9, (HS7.out.but k8 nth).but k9 huq, by rw [hG1]; show u ≠ G7.q; rw [E7.out.1]; exact huq, ⟨by rw [hG1]; exact E7.out.1, by rw [hG1]; exact E7.out.2.1, by rw [hG1]; exact E7.out.2.2.1⟩, fun B' h1 h2 h3 => ((HB7.out B' h1 h2 h3).trans (k8.low.mono h2)).trans (k9.low.mono h1), (HW7.out.trans (k8.low.mono hBt)).trans (k9.low.mono hBq), by rw [en9]; have := HBN.out; omega, fun tz htz => ?_⟩
              exact HPR.out tz htz G1 eT en9
          case' neg =>
            have HDR : Hid (∀ w', GoAt d ({ G7 with T := G7.T.set x.head.toNat true } : GoD) w' → Has .u8 w' (some ⟨bb, bo + Z, none⟩) (G.b.n - Z) (G.bs.drop Z)) := fun w' h => by
              have hb := h.hb
              rw [ebn, ebs, EB.out] at hb
              exact has_drop hb (by omega)
            obtain ⟨W9, hW9⟩ : ∃ W9, W9 = W8.setCell ⟨G.q, 1, none⟩ (.slice (some ⟨bb, bo + Z, none⟩) (G.b.n - Z) (G.b.c - Z)) := ⟨_, rfl⟩
            have hs9 : Has .u8 W8 (some ⟨bb, bo + Z, none⟩) (G.b.n - Z) (G.bs.drop Z) := HDR.out W8 HG8.out
            obtain ⟨G1, hG1⟩ : ∃ G1, G1 = ({ ({ G7 with T := G7.T.set x.head.toNat true } : GoD) with b := ⟨some ⟨bb, bo + Z, none⟩, G.b.n - Z, G.b.c - Z⟩, bs := G.bs.drop Z } : GoD) := ⟨_, rfl⟩
            have hg9 : GoAt d G1 W9 := by
              rw [hG1, hW9, ← E7.out.1]
              exact HG8.out.setBytes ⟨some ⟨bb, bo + Z, none⟩, G.b.n - Z, G.b.c - Z⟩ (G.bs.drop Z) hs9 (show G.b.n - Z ≤ G.b.c - Z by omega)
            have k9 : But G.q W8 W9 := by rw [hW9]; exact set_but
            have HAT : Hid (AtCases d hc N k x B w0 w G G1 u W9) := by
              have eT : G1.T = G.T.set x.head.toNat true := by rw [hG1]; show G7.T.set _ _ = _; rw [E7.out.2.2.2.2.2]
              have en9 : G1.b.n = G.b.n - Z := by rw [hG1]
              refine ⟨hg9, (HS7.out.but k8 nth).but k9 huq, by rw [hG1]; show u ≠ G7.q; rw [E7.out.1]; exact huq, ⟨by rw [hG1]; exact E7.out.1, by rw [hG1]; exact E7.out.2.1, by rw [hG1]; exact E7.out.2.2.1⟩, fun B' h1 h2 h3 => ((HB7.out B' h1 h2 h3).trans (k8.low.mono h2)).trans (k9.low.mono h1), (HW7.out.trans (k8.low.mono hBt)).trans (k9.low.mono hBq), by rw [en9]; have := HBN.out; omega, fun tz htz => ?_⟩
              exact HPR.out tz htz G1 eT en9
          all_goals
            have HG9 := hid hg9
            have E9 := hid hW9
            clear hgb hg9 HG8 HG7 HS7 HB7 HW7 k8 k9 hs9 hG1 ct ft c3 hW9 hW8 ebn ebs ebq HPR
            go_upto_region 11 with fail
            rw [← E9.out]
            clear E9 q1 f1 u0 hcap hbcc hWN HG9 EB HBCL E7 mq my mu mh hzi hz hzc' hz0 HHD HZE HZC HZS HEW HXX HWK HCN hil nth
            go_wp2_with fail
            go_loopw [8] (fun qv wr => ∃ (j : Nat) (G2 : GoD), j ≤ x.cases.n ∧ qv = .int .i64 j ∧ Hid (AtCases d hc N k x B w0 w G G2 u wr)) (fun qv _ => x.cases.n - (intOf qv).toNat)
            case atStart => exact ⟨0, G1, Nat.zero_le _, rfl, HAT⟩
            case round =>
              obtain ⟨j, G2, hj, rfl, HA2⟩ := hrel
              clear HAT
              have eq2 := HA2.out.eq.1
              have s1 := HA2.out.st.c1
              have s2 := HA2.out.st.c2
              have s3 := HA2.out.st.c3
              have s4 := HA2.out.st.c4
              by_cases hlt : j < x.cases.n
              · have hji : (j : Int) < (x.cases.n : Int) := by omega
                have hj0 : (0 : Int) ≤ (j : Int) := by omega
                obtain ⟨cg, co, c, eca, hcj, ⟨v0, _⟩, ⟨v1, _⟩, ⟨v2, _⟩⟩ := row_at (HCS.out wr (HLW.out wr HA2.out.bw)) hlt
                rw [eca] at s3
                have hcq : cg ≠ G.q := HCQ.out cg co eca (by omega)
                have huq : u ≠ G.q := by have := HA2.out.uq; rw [eq2] at this; exact this
                have hbd : Below wr.heap.size wr wr.drew := (Below.refl _ _).drew
                have HFI := hid (gfield_any (HA2.out.go.step hbd) HDN.out x.r (HON.out (by omega)))
                rw [eq2] at HFI
                have HTO : Hid (c.to ∈ outsP x.p) := List.mem_append_left _ (List.mem_map.2 ⟨c, List.mem_of_getElem? hcj, rfl⟩)
                have HKD : Hid (But G.q wr wr.drew) := But.of hbd (by have := HA2.out.go.qlt; rw [eq2] at this; omega)
                clear hbd hcj eca
                go_wp2_with fail
                go_region_held3 (fun w' => w'.cell? ⟨u, 1, none⟩ = some (.int .i64 x.r.h) ∧ w'.cell? ⟨u, 2, none⟩ = some (.int .i64 x.r.f) ∧ w'.cell? ⟨u, 3, none⟩ = some (.slice (some ⟨cg, co, none⟩) x.cases.n x.cases.c) ∧ w'.cell? ⟨cg, co + j * 3, none⟩ = some (.int .u64 c.value) ∧ w'.cell? ⟨cg, co + j * 3 + 1, none⟩ = some (.int .u64 c.mask))
                  (first
                    | (go_split_ands; with_reducible exact tk5 huq hcq ⟨by assumption, by assumption, by assumption, by assumption, by assumption⟩ hk4)
                    | go_keep)
                  (first | (go_at_call 33; refine HFI.out.mono ?_; rintro e w4 ⟨n4, x4, rfl, hn4, hg4, hk4⟩; rw [eq2] at hk4))
                have hkw : But G.q wr w4 := HKD.out.trans hk4
                have HA4 : Hid (AtCases d hc N k x B w0 w G { G2 with gone := x4 } u w4) := ⟨hg4, HA2.out.st.but hkw huq, HA2.out.uq, HA2.out.eq, fun B' h1 h2 h3 => (HA2.out.bl B' h1 h2 h3).trans (hkw.low.mono h1), HA2.out.bw.trans (hkw.low.mono HBQ.out.1), HA2.out.n, HA2.out.pre⟩
                have p2 := hkw.cell hcq v2
                have p3 := hkw.cell huq s3
                rename_i hHeld
                clear hHeld HFI HKD hg4 hk4 hkw HA2 s1 s2 s3 s4 v0 v1 v2
                have eq4 : ({ G2 with gone := x4 } : GoD).q = G.q := eq2
                generalize ({ G2 with gone := x4 } : GoD) = G4 at *
                obtain ⟨Bq, hBe⟩ : ∃ Bq, Bq = (bits .and .u64 n4 c.mask == c.value) := ⟨_, rfl⟩
                rw [← hBe]
                clear hBe hn4
                cases Bq with
                | true =>
                  have HT := hid (HI.out c.to HTO.out G4 w0 w4 HL0.out (HBB.out G4 w4 HA4.out) HA4.out.go HA4.out.n (HA4.out.pre _ HTO.out))
                  rw [eq4] at HT
                  go_wp2_with fail
                  refine HT.out.mono ?_
                  rintro e w5 ⟨ok, G5, rfl, hg5, hq5, hb5, hw5⟩
                  have HE : Hid (TakeDone d hc N G w (.returned (.bool ok)) w5) := ⟨ok, G5, rfl, hg5, hq5.trans eq4, fun B' h1 h2 h3 => (HA4.out.bl B' h1 h2 h3).trans (hb5 B' (by rw [HA4.out.eq.1]; exact h1) (by rw [HA4.out.eq.2.1]; exact h2) (by rw [HA4.out.eq.2.2]; exact h3)), hw5⟩
                  clear HT hg5 hq5 hb5 hw5 HA4 p2 p3
                  go_wp2
                  go_ret
                  exact HE.out
                | false =>
                  clear p2 p3
                  go_wp2
                  go_roundw
                  case rel => exact ⟨j + 1, G4, by omega, by go_num, HA4⟩
                  case measure => simp [intOf]; omega
              · have hji : ¬ (j : Int) < (x.cases.n : Int) := by omega
                have HTE : Hid (x.els ∈ outsP x.p) := List.mem_append_right _ List.mem_cons_self
                have HT := hid (HI.out x.els HTE.out G2 w0 wr HL0.out (HBB.out G2 wr HA2.out) HA2.out.go HA2.out.n (HA2.out.pre _ HTE.out))
                rw [eq2] at HT
                go_wp2_with fail
                refine HT.out.mono ?_
                rintro e w5 ⟨ok, G5, rfl, hg5, hq5, hb5, hw5⟩
                have HE : Hid (TakeDone d hc N G w (.returned (.bool ok)) w5) := ⟨ok, G5, rfl, hg5, hq5.trans eq2, fun B' h1 h2 h3 => (HA2.out.bl B' h1 h2 h3).trans (hb5 B' (by rw [HA2.out.eq.1]; exact h1) (by rw [HA2.out.eq.2.1]; exact h2) (by rw [HA2.out.eq.2.2]; exact h3)), hw5⟩
                clear HT hg5 hq5 hb5 hw5 HA2 s1 s2 s3 s4
                go_wp2
                go_ret
                exact HE.out
end Go.Proofs.Ytcmdgbfppbkfmaa
