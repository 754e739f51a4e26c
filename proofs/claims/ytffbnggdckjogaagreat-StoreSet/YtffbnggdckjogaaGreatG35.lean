/- Texts of one chain, joined: SSays. -/
import Derived.Test.YtffbnggdckjogaaGreatG48
import Derived.Test.YtffbnggdckjogaaGreatG8
namespace Go.Proofs.YtffbnggdckjogaaGreat
open Go.RowKit Mth
def Deft (w : World) (s : Nat) (h : HitM) : Prop := ∃ a n c, w.cell? ⟨s, 4, none⟩ = some (.int .i64 h.1) ∧ w.cell? ⟨s, 5, none⟩ = some (.slice a n c) ∧ Says w (.agg #[.int .i64 h.1, .slice a n c]) h
def SaysDone (w w' : World) (h : HitM) (q : Ending) : Prop := ∃ a n c, q = .returned (.agg #[.int .i64 h.1, .slice a n c]) ∧ From w.heap.size a n ∧ Says w' (.agg #[.int .i64 h.1, .slice a n c]) h ∧ Below w.heap.size w w'
set_option maxHeartbeats 1000000 in
set_option maxRecDepth 20000 in
theorem ssays_any {w : World} {s : Nat} {h : HitM} (hd : Deft w s h) :
    Calls Tryz.prog 21 #[.pointer (some ⟨s, 0, none⟩)] w fun q w' => SaysDone w w' h q := by
  obtain ⟨a, n, c, c4, c5, hs⟩ := hd
  have hb0 := bl_alloc (o := HC 0 none 0 0) (Below.refl w.heap.size w)
  have hl : s < w.heap.size := World.block_lt_of_cell? w _ c4
  have hne : ¬ w.heap.size = s := by omega
  have d4 := (hb0.cell (p := ⟨s, 4, none⟩) hl).trans c4
  have d5 := (hb0.cell (p := ⟨s, 5, none⟩) hl).trans c5
  have HC1 := hid (scopied_any (hs.moved (moved_below hb0)))
  have HQ := hid (new_two w (.int .i64 0) (.slice none 0 0) 50)
  have HB0 := hid hb0
  clear c4 c5 hs hb0
  go_enter Tryz.func21, Tryz.ntmps21
  go_wp2_with fail
  refine HC1.out.mono ?_
  rintro q w1 ⟨a1, n1, c1, rfl, f1, s1, b1⟩
  have q0 := (b1.cell (p := ⟨w.heap.size, 0, none⟩) (by simp)).trans HQ.out.1
  have q1 := (b1.cell (p := ⟨w.heap.size, 1, none⟩) (by simp)).trans HQ.out.2.1
  have g0 := (b1.frozen (p := ⟨w.heap.size, 0, none⟩) (by simp)).trans HQ.out.2.2.1
  have g1 := (b1.frozen (p := ⟨w.heap.size, 1, none⟩) (by simp)).trans HQ.out.2.2.2
  have HE : Hid (∀ u v, SaysDone w ((w1.setCell ⟨w.heap.size, 0, none⟩ u).setCell ⟨w.heap.size, 1, none⟩ v) h (.returned (.agg #[.int .i64 h.1, .slice a1 n1 c1]))) := fun u v => ⟨a1, n1, c1, rfl, f1.mono (by simp), s1.over q0 q1 u v, ((bl_step HB0.out b1).setCell (Nat.le_refl _) _).setCell (Nat.le_refl _) _⟩
  clear f1 s1 b1 HC1
  go_wp2
  exact bodyPost_ret (v := .agg #[.int .i64 h.1, .slice a1 n1 c1]) (by simp [results, Tryz.results21, go_sem, q0, q1]) rfl (HE.out _ _)
end Go.Proofs.YtffbnggdckjogaaGreat
