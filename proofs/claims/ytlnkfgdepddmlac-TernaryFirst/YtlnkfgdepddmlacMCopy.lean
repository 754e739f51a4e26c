/- What list and copied of a table by masks do. -/
import Derived.Test.YtlnkfgdepddmlacMPlace
import Derived.Test.YtlnkfgdepddmlacLOne
namespace Go.Proofs.Ytlnkfgdepddmlac
open Go.RowKit Mth

def ListDone (w w' : World) (n : Nat) (zs : List Int) (e : Ending) : Prop := ∃ a c, e = .returned (.slice a n c) ∧ Lst w' w.heap.size a n c zs ∧ Below w.heap.size w w'

theorem lst_of_own {w w' : World} {v : Value} {n : Nat} {zs : List Int} (ho : w'.ownsRow w.heap.size 38 1 v n (UU zs)) (hz : ∀ n ∈ zs, 0 ≤ n ∧ n < 18446744073709551616) : ∃ a c, v = .slice a n c ∧ Lst w' w.heap.size a n c zs := by
  obtain ⟨a, c, rfl, hc, hn⟩ := own_is ho
  exact ⟨a, c, rfl, hn, hc, has_own64 ho hz, own_from ho⟩

set_option maxHeartbeats 1000000 in
set_option maxRecDepth 20000 in
theorem list_any {w : World} {a : Option Addr} {n c : Nat} {zs : List Int} (hn : a = none → n = 0 ∧ c = 0) (hz : Has .u64 w a n zs) (h3 : n ≤ 1000) :
    Calls Try.prog 63 #[.slice a n c] w fun e w' => ListDone w w' n zs e := by
  have HN := hid hn
  have HZ := hid hz
  clear hn hz
  go_enter Try.func63, Try.ntmps63
  go_wp2_with (at_builtin; refine copy64_law rfl _ _ rfl rfl _ _ _ zs rfl HN.out ?c1 ?c2 ?_)
  case c1 => exact HZ.out
  case c2 => omega
  intro v w1 ho hb
  obtain ⟨a', c', rfl, hl⟩ := lst_of_own ho HZ.out.nums
  have HL := hid hl
  have HB := hid hb
  clear ho hl hb
  go_wp2
  go_ret
  exact ⟨a', c', rfl, HL.out, HB.out⟩

/-- an entry with lists of its own -/
def CopyDone (w w' : World) (e : TE) (r : Ending) : Prop := ∃ d : MD, r = .returned d.ev ∧ d.good w' e ∧ d.new w.heap.size ∧ d.ln = 0 ∧ Below w.heap.size w w'

theorem MD.new.mono {d : MD} {B B' : Nat} (h : d.new B) (hB : B' ≤ B) : d.new B' := ⟨h.1.mono hB, h.2.1.mono hB, h.2.2.mono hB⟩

set_option maxHeartbeats 4000000 in
set_option maxRecDepth 20000 in
theorem mcopied_any {w : World} {f : MD} {e : TE} (hf : f.good w e) :
    Calls Try.prog 55 #[f.ev] w fun r w' => CopyDone w w' e r := by
  have hb0 : Below w.heap.size w ((w.alloc f.ec).alloc (EC none 0 0 none 0 0 0 0 0 none 0 0)) := bl_alloc (bl_alloc (Below.refl _ _))
  have hb1 : Below ((w.alloc f.ec).alloc (EC none 0 0 none 0 0 0 0 0 none 0 0)).heap.size ((w.alloc f.ec).alloc (EC none 0 0 none 0 0 0 0 0 none 0 0)) ((w.alloc f.ec).alloc (EC none 0 0 none 0 0 0 0 0 none 0 0)).drew := (Below.refl _ _).drew
  have HF := hid ((hf.step hb0).step hb1)
  have LK := hid (list_any (c := f.kc) hf.kn0 HF.out.ks hf.ks3)
  have T1 : Six ((w.alloc f.ec).alloc (EC none 0 0 none 0 0 0 0 0 none 0 0)) w.heap.size (.slice f.ka f.kn f.kc) (.slice f.ma f.mn f.mc) (.int .i64 f.ln) (.int .i64 f.pr) (.int .i64 f.ac) (.slice f.a f.n f.c) := Six.step (six_new w _ _ _ _ _ _ _) (bl_alloc (Below.refl _ _))
  have R1 := six_new (w.alloc f.ec) (.slice none 0 0) (.slice none 0 0) (.int .i64 0) (.int .i64 0) (.int .i64 0) (.slice none 0 0) 33
  rw [show (w.alloc f.ec).heap.size = w.heap.size + 1 from by simp] at R1
  have HR : Hid (Six ((w.alloc f.ec).alloc (EC none 0 0 none 0 0 0 0 0 none 0 0)) (w.heap.size + 1) (.slice none 0 0) (.slice none 0 0) (.int .i64 0) (.int .i64 0) (.int .i64 0) (.slice none 0 0)) := R1
  have HB0 := hid hb0
  have HB1 := hid hb1
  clear hf hb0 hb1 R1
  obtain ⟨k0, k1, k2, k3, k4, k5, -, -, -, -, -, -⟩ := T1
  go_enter Try.func55, Try.ntmps55
  go_wp2
  generalize (w.alloc f.ec).alloc (EC none 0 0 none 0 0 0 0 0 none 0 0) = w0 at *
  go_region_held3 (fun w' => w'.cell? ⟨w.heap.size, 0, none⟩ = some (.slice f.ka f.kn f.kc) ∧ w'.cell? ⟨w.heap.size, 1, none⟩ = some (.slice f.ma f.mn f.mc) ∧ w'.cell? ⟨w.heap.size, 2, none⟩ = some (.int .i64 f.ln) ∧ w'.cell? ⟨w.heap.size, 3, none⟩ = some (.int .i64 f.pr) ∧ w'.cell? ⟨w.heap.size, 4, none⟩ = some (.int .i64 f.ac) ∧ w'.cell? ⟨w.heap.size, 5, none⟩ = some (.slice f.a f.n f.c))
    (first
      | go_keep
      | (go_split_ands
         first
         | exact keep6 ⟨by assumption, by assumption, by assumption, by assumption, by assumption, by assumption⟩ hbk
         | exact keep6 ⟨by assumption, by assumption, by assumption, by assumption, by assumption, by assumption⟩ hbm
         | exact keep6 ⟨by assumption, by assumption, by assumption, by assumption, by assumption, by assumption⟩ hba))
    (first
      | (go_at_call 63; (with_reducible refine LK.out.mono ?_); rintro r wk ⟨ak, ck, rfl, lk, hbk⟩; have LM := hid (list_any (c := f.mc) HF.out.mn0 (HF.out.ms.step hbk) HF.out.ms3))
      | (go_at_call 63; (with_reducible refine LM.out.mono ?_); rintro r wm ⟨am, cm, rfl, lm, hbm⟩; have LA := hid (list_any (c := f.c) HF.out.n0 ((HF.out.xs.step hbk).step hbm) HF.out.xs3))
      | (go_at_call 63; (with_reducible refine LA.out.mono ?_); rintro r wa ⟨aa, ca, rfl, la, hba⟩; obtain ⟨_, _, _, _, _, _, _, _, _, _, _, _⟩ := ((((HR.out.step HB1.out).step hbk).step hbm).step hba)))
  all_goals
    have hlt : w.heap.size + 1 < w0.drew.heap.size := World.block_lt_of_cell? w0.drew _ (HR.out.step HB1.out).k0
    have e1 : w0.drew.heap.size ≤ wk.heap.size := hbk.size
    have e2 : wk.heap.size ≤ wm.heap.size := hbm.size
    have hS := six_set ((((HR.out.step HB1.out).step hbk).step hbm).step hba) (.slice ak f.kn ck) (.slice am f.mn cm) (.int .i64 0) (.int .i64 f.pr) (.int .i64 f.ac) (.slice aa f.n ca)
    have hB : Below w.heap.size w wa := bl_step (bl_step (bl_step (bl_step HB0.out HB1.out) hbk) hbm) hba
    have l1 := ((lk.step hbm).step hba).set6 (r := w.heap.size + 1) (B' := w.heap.size) hlt (.slice ak f.kn ck) (.slice am f.mn cm) (.int .i64 0) (.int .i64 f.pr) (.int .i64 f.ac) (.slice aa f.n ca) (by omega)
    have l2 := (lm.step hba).set6 (r := w.heap.size + 1) (B' := w.heap.size) (by omega) (.slice ak f.kn ck) (.slice am f.mn cm) (.int .i64 0) (.int .i64 f.pr) (.int .i64 f.ac) (.slice aa f.n ca) (by omega)
    have l3 := la.set6 (r := w.heap.size + 1) (B' := w.heap.size) (by omega) (.slice ak f.kn ck) (.slice am f.mn cm) (.int .i64 0) (.int .i64 f.pr) (.int .i64 f.ac) (.slice aa f.n ca) (by omega)
    have hB6 := below_six hB (r := w.heap.size + 1) (by omega) (.slice ak f.kn ck) (.slice am f.mn cm) (.int .i64 0) (.int .i64 f.pr) (.int .i64 f.ac) (.slice aa f.n ca)
    have HE : Hid (CopyDone w _ e (.returned (EV ak f.kn ck am f.mn cm 0 f.pr f.ac aa f.n ca))) := ⟨⟨ak, f.kn, ck, am, f.mn, cm, 0, f.pr, f.ac, aa, f.n, ca⟩, rfl, ⟨l1.1, HF.out.ks3, l1.2.2.1, l2.1, HF.out.ms3, l2.2.2.1, HF.out.pr, HF.out.ac, l3.1, HF.out.xs3, l3.2.2.1⟩, ⟨l1.2.2.2, l2.2.2.2, l3.2.2.2⟩, rfl, hB6⟩
    obtain ⟨s0, s1, s2, s3, s4, s5, -, -, -, -, -, -⟩ := hS
    clear lk lm la l1 l2 l3 hB hB6 hbk hbm hba
    go_wp2
    exact bodyPost_ret (v := EV ak f.kn ck am f.mn cm 0 f.pr f.ac aa f.n ca) (by simp [results, Try.results55, go_sem, s0, s1, s2, s3, s4, s5]) rfl HE.out
end Go.Proofs.Ytlnkfgdepddmlac
