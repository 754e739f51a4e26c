/- A packet is parsed, by the document: Parse, where start is as it should be. -/
import Derived.Test.YtcmdgbfppbkfmaaVYNew
namespace Go.Proofs.Ytcmdgbfppbkfmaa
open Go.RowKit

/-- a packet at its beginning -/
def StartDone (d : PlanD) (yb : Nat) (b : QSl) (bs : List Int) (w : World) (e : Ending) (w' : World) : Prop := ∃ G : GoD, e = .returned (.pointer (some ⟨G.q, 0, none⟩)) ∧ GoAt d G w' ∧ G.yb = yb ∧ G.b = b ∧ G.bs = bs ∧ thereN G.T = 0 ∧ w.heap.size ≤ G.q ∧ w.heap.size ≤ G.th ∧ w.heap.size ≤ G.vb ∧ Below w.heap.size w w'

/-- what is taken of a packet, and how many bytes -/
def ParseDone (d : PlanD) (hc : (chkP d.p).1 = 0) (w : World) (e : Ending) (w' : World) : Prop := ∃ (t : Nat) (n : Int) (ok : Bool), e = .returned (.tuple #[.int .u64 (t : Int), .int .i64 n, .bool ok]) ∧ (ok = true → ∃ c : Nat, n = (c : Int) ∧ Wk.Wy (parOf d.p hc) d.p.ss.length t c) ∧ Below w.heap.size w w'

set_option maxHeartbeats 8000000 in
set_option maxRecDepth 20000 in
theorem parse_any (d : PlanD) (hc : (chkP d.p).1 = 0) (yb : Nat) (b : QSl) (bs : List Int) (port : Int) (w : World) (hl : d.lie w) (hn : b.n ≤ 2000) (h0 : 0 < d.p.ss.length)
    (hs : Calls Try.prog 16 #[.pointer (some ⟨yb, 0, none⟩), .slice b.a b.n b.c, .int .i64 port] w (StartDone d yb b bs w)) :
    Calls Try.prog 9 #[.pointer (some ⟨yb, 0, none⟩), .slice b.a b.n b.c, .int .i64 port] w (ParseDone d hc w) := by
  have HS := hid hs
  have HL := hid hl
  have HDN : Hid (d.p.hs.length = d.heads.n) := by show _ = _; simp [PlanD.p, hl.hs.1]
  clear hs hl
  go_enter Try.func9, Try.ntmps9
  go_wp2_with fail
  refine HS.out.mono ?_
  rintro e w1 ⟨G, rfl, hg, _, eb, _, ht, hq, hth, hvb, hb1⟩
  have HT := hid (take_zero d hc G w w1 HL.out ⟨w.heap.size, Nat.le_refl _, hq, hth, hvb, hb1⟩ hg (by rw [eb]; exact hn) ht h0)
  have HQ := hid (And.intro hq (And.intro hth (And.intro hvb hb1)))
  have EB := hid eb
  clear hg eb ht hq hth hvb hb1 HS
  go_wp2_with fail
  refine HT.out.mono ?_
  rintro e w2 ⟨ok, G2, rfl, hg2, hq2, hb2, hw2⟩
  have q1 := hg2.c1
  have hbc : Below w.heap.size w w2 := HQ.out.2.2.2.trans (hb2 _ HQ.out.1 HQ.out.2.1 HQ.out.2.2.1)
  have HBC := hid hbc
  have HG2 := hid hg2
  have HW2 := hid hw2
  rw [hq2] at q1
  have hn2 : G2.b.n ≤ G2.b.c := hg2.bc
  have h6 : d.heads.n ≤ 6 := by have h1 : (d.p.hs.length : Int) ≤ 6 := (chk_zero hc 0 (by decide)).2.1; have h2 := HDN.out; omega
  have HM : Hid (∀ p : BelowBy w2, Calls Try.prog 18 #[.pointer (some ⟨G.q, 0, none⟩)] p.to fun e w'' => e = .returned (.int .u64 ((thereN G2.T : Nat) : Int)) ∧ Below p.to.heap.size p.to w'') := fun p => by
    have := gmask_any (HG2.out.step p.h) h6
    rw [hq2] at this
    exact this.mono (fun e w' ⟨h1, h2⟩ => ⟨h1, by rw [h2]; exact Below.refl _ _⟩)
  have HBD : Hid (∀ w', Below w2.heap.size w2 w' → Below w.heap.size w w') := fun w' h => bl_step HBC.out h
  have q1' := cell_by q1
  have HR : Hid (∀ D : Int, (ok = true → D = (b.n : Int) - (G2.b.n : Int)) → ∀ w', Below w2.heap.size w2 w' → ParseDone d hc w (.returned (.tuple #[.int .u64 ((thereN G2.T : Nat) : Int), .int .i64 D, .bool ok])) w') := fun D hD w' h => ⟨_, D, ok, rfl, fun h1 => by
    obtain ⟨c, h2, h3⟩ := HW2.out h1
    refine ⟨c, ?_, h2⟩
    rw [hD h1]
    have := EB.out
    rw [this] at h3
    omega, HBD.out w' h⟩
  have HS2 : Hid (ok = true → G2.b.n ≤ 2000) := fun h1 => by
    obtain ⟨c, h2, h3⟩ := HW2.out h1
    have := EB.out
    rw [this] at h3
    omega
  clear hg2 hb2 hw2 hbc HT h6 hq2 HW2 HG2 HBC HBD EB HQ HL HDN
  generalize thereN G2.T = TT at *
  generalize G2.b.n = gn at *
  generalize G2.b.c = gc at *
  generalize G2.b.a = ga at *
  go_wp2_with fail
  haveI inhB : ∀ w : World, Inhabited (BelowBy w) := fun w => ⟨⟨w, Below.refl _ _⟩⟩
  refine wp_region_quiet_below (by kernel_rfl) (by kernel_rfl) ?_
  repeat (go_big_quiet_step (first | (go_at_call 18; exact calls_below _ (HM.out _))))
  refine wpQuiet_nil ?_
  intro wq hw'
  obtain ⟨⟨_, hwq⟩, hw''⟩ := hw'
  subst hw''
  clear HM q1 q1'
  go_wp2
  exact bodyPost_ret (v := .tuple #[.int .u64 (TT : Int), .int .i64 (wrap64 ((b.n : Int) - (gn : Int))), .bool ok]) (by simp [results, Try.results9, go_sem]) rfl (HR.out _ (fun h => by have h1 := HS2.out h; unfold wrap64; omega) _ hwq)

end Go.Proofs.Ytcmdgbfppbkfmaa
