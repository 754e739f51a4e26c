/- Texts of one chain, joined: ZLaw, ZBkB. -/
import Derived.Test.YtedeiaokohdhpaaGreatG43
import Derived.Test.YtedeiaokohdhpaaGreatG45
import Derived.Test.YtedeiaokohdhpaaGreatG46
import Derived.Test.YtedeiaokohdhpaaGreatG41
namespace Go.Proofs.YtedeiaokohdhpaaGreat
open Go.RowKit
theorem num_byt (n : Int) : Mth.Byt (numL n) := plain_byt _
theorem byt_app {a b : List Int} (ha : Mth.Byt a) (hb : Mth.Byt b) : Mth.Byt (a ++ b) := fun x hx => (List.mem_append.1 hx).elim (ha x) (hb x)
theorem byt_flat {α : Type} {f : α → List Int} {L : List α} (h : ∀ x, Mth.Byt (f x)) : Mth.Byt (L.flatMap f) := fun y hy => by
  obtain ⟨x, _, hx⟩ := List.mem_flatMap.1 hy
  exact h x y hx
theorem byt_nil : Mth.Byt [] := fun _ h => absurd h List.not_mem_nil
theorem byt_ref (x : RefD) : Mth.Byt (refL x) := byt_app (num_byt _) (num_byt _)
theorem byt_step (x : PushD) : Mth.Byt (stepL x) := by
  refine byt_app (num_byt _) ?_
  split
  · exact plain_byt _
  · split
    · exact byt_ref _
    · exact byt_nil
theorem byt_tree (es : List PushD) : Mth.Byt (treeL es) := byt_app (num_byt _) (byt_flat byt_step)
theorem byt_ints (ns : List Int) : Mth.Byt (intsL ns) := byt_app (num_byt _) (byt_flat num_byt)
theorem byt_nums (zs : List Int) : Mth.Byt (numsL zs) := byt_app (num_byt _) (byt_flat fun _ => plain_byt _)
theorem byt_case (x : CaseD) : Mth.Byt (caseL x) := byt_app (plain_byt _) (byt_app (plain_byt _) (num_byt _))
theorem byt_state (x : StateD) : Mth.Byt (stateL x) := by
  refine byt_app (byt_app (num_byt _) (num_byt _)) (byt_app ?_ (byt_app (byt_flat byt_case) (num_byt _)))
  split
  · exact byt_nil
  · exact byt_ref _
theorem byt_op (x : OpD) : Mth.Byt (opL x) := by
  unfold opL
  refine byt_app (num_byt _) ?_
  (repeat' split) <;> first | exact byt_nil | exact num_byt _ | exact byt_tree _ | exact byt_app (byt_ref _) (byt_tree _) | exact byt_app (byt_ref _) (num_byt _)
theorem byt_act (x : ActD) : Mth.Byt (actL x) := byt_app (byt_ints _) (byt_app (num_byt _) (byt_flat byt_op))
theorem byt_tab (x : TabD) : Mth.Byt (tabL x) := byt_app (num_byt _) (byt_app (byt_app (num_byt _) (byt_flat byt_ref)) (byt_app (byt_ints _) (byt_app (byt_app (num_byt _) (num_byt _)) (byt_nums _))))
theorem byt_node (x : NodeD) : Mth.Byt (nodeL x) := by
  unfold nodeL
  refine byt_app (byt_app (num_byt _) (num_byt _)) ?_
  (repeat' split) <;> first | exact num_byt _ | exact byt_app (byt_tree _) (num_byt _) | exact byt_app (num_byt _) (num_byt _)
theorem byt_plan (d : PlanD) : Mth.Byt (planL d) :=
  byt_app (byt_app (num_byt _) (byt_flat fun x => byt_ints x.ws)) (byt_app (byt_ints _) (byt_app (byt_app (num_byt _) (byt_flat byt_state)) (byt_app (byt_app (num_byt _) (byt_flat byt_act)) (byt_app (byt_app (num_byt _) (byt_flat byt_tab)) (byt_app (byt_app (num_byt _) (byt_flat byt_node)) (byt_ints _))))))
theorem byt_body (d : PlanD) : Mth.Byt (bodyL d) := byt_app (fun x hx => by simp only [List.mem_cons, List.not_mem_nil, or_false] at hx; rcases hx with rfl | rfl | rfl <;> decide) (byt_plan d)
theorem enc_byt (d : PlanD) : Mth.Byt (encL d) := byt_app (byt_body d) (four_byt _)
end Go.Proofs.YtedeiaokohdhpaaGreat

namespace Go.Proofs.YtedeiaokohdhpaaGreat
open Go.RowKit
theorem u64_of {n : Int} (h : (Lit.int .u64 n).wf = true) : 0 ≤ n ∧ n < 18446744073709551616 := by
  have := bounds_u64 h
  omega
theorem push_nums {w : World} {s : QSl} {S : List PushD} (h : QRow 4 PushD.lie w s S) (hn : s.n ≤ 100000) : S.length ≤ 100000 ∧ ∀ y ∈ S, y.nums :=
  ⟨by rw [h.1]; exact hn, fun y hy => by
    obtain ⟨h1, h2, h3, h4⟩ := push_wf h y hy
    exact ⟨h1, h2, h3, (u64_of h4).1, (u64_of h4).2⟩⟩
theorem nums_of_lie {d : PlanD} {w : World} (hl : d.lie w) (hf : d.wfew) : d.nums := by
  refine ⟨⟨hl.hs.1, fun y hy => ?_⟩, ⟨by rw [hl.ms.1]; exact hf.ms, hl.ms.2.1⟩, ⟨hl.ss.1, fun y hy => ?_⟩, ⟨hl.al.1, fun y hy => ?_⟩, ⟨hl.ts.1, fun y hy => ?_⟩, ⟨hl.ns.1, fun y hy => ?_⟩, ⟨by rw [hl.os.1]; exact hf.os, hl.os.2.1⟩⟩
  · obtain ⟨g, o, hp⟩ := qmem hl.hs y hy
    exact ⟨by rw [hp.2.1]; exact hf.hs.2 y hy, hp.2.2.1⟩
  · obtain ⟨g, o, hp⟩ := qmem hl.ss y hy
    refine ⟨hf.ss.2 y hy, hp.2.2.2.2.2.1, hp.1.2, hp.2.1.2, hp.2.2.1.2, hp.2.2.2.2.1.2, fun z hz => ?_⟩
    obtain ⟨g', o', hq⟩ := qmem hp.2.2.2.2.2 z hz
    exact ⟨u64_of hq.1.2, u64_of hq.2.1.2, hq.2.2.2⟩
  · obtain ⟨g, o, hp⟩ := qmem hl.al y hy
    obtain ⟨f1, f2, f3⟩ := hf.al.2 y hy
    refine ⟨by rw [hp.2.2.1.1]; exact f1, hp.2.2.1.2.1, by rw [hp.2.2.2.1]; exact f2, hp.2.2.2.1, fun z hz => ?_⟩
    obtain ⟨g', o', hq⟩ := qmem hp.2.2.2 z hz
    have := push_nums hq.2.2.2.2.2 (f3 z hz)
    exact ⟨hq.1.2, hq.2.1.2, hq.2.2.1.2, hq.2.2.2.1.2, this.1, this.2⟩
  · obtain ⟨g, o, hp⟩ := qmem hl.ts y hy
    obtain ⟨f1, f2, f3⟩ := hf.ts.2 y hy
    refine ⟨hp.1.2, ⟨by rw [hp.2.2.2.2.2.2.1.1]; exact f1, hp.2.2.2.2.2.2.1.1, fun z hz => ?_⟩, ⟨by rw [hp.2.2.2.2.2.2.2.1.1]; exact f2, hp.2.2.2.2.2.2.2.1.2.1⟩, hp.2.2.2.1.2, hp.2.2.2.2.1.2, by rw [hp.2.2.2.2.2.2.2.2.1]; exact f3, fun z hz => u64_of (hp.2.2.2.2.2.2.2.2.2.1 z hz)⟩
    obtain ⟨g', o', hq⟩ := qmem hp.2.2.2.2.2.2.1 z hz
    exact ⟨hq.1.2, hq.2.2⟩
  · obtain ⟨g, o, hp⟩ := qmem hl.ns y hy
    have := push_nums hp.2.2.2.2.2 (hf.ns.2 y hy)
    exact ⟨hp.1.2, hp.2.1.2, hp.2.2.2.1.2, hp.2.2.2.2.1.2, this.1, this.2⟩
theorem dec_enc {d : PlanD} {w : World} (hl : d.lie w) (hf : d.wfew) (hc : (chkP d.p).1 = 0) : decX (encL d) = some (planX d) := by
  have hn := nums_of_lie hl hf
  have hb := enc_8000 hl hc
  have h3 : 3 ≤ (bodyL d).length := by unfold bodyL; rw [List.length_append]; show 3 ≤ 3 + _; omega
  have hlen : (encL d).length = (bodyL d).length + 4 := enc_len d
  have e4 : (encL d).length - 4 = (bodyL d).length := by omega
  have et : (encL d).take ((encL d).length - 4) = bodyL d := by rw [e4]; unfold encL; exact List.take_left' rfl
  have ed : (encL d).drop ((encL d).length - 4) = Mth.four (Mth.crc (bodyL d)) := by rw [e4]; unfold encL; exact List.drop_left' rfl
  have em : (encL d).take 3 = [83, 89, 1] := by unfold encL bodyL; rfl
  have hfr : frameF (encL d) = (0, 0) := by
    unfold frameF
    rw [if_neg (by omega), if_neg (by omega), if_neg (by rw [em]; exact fun h => h rfl), if_neg (by rw [ed, et]; exact fun h => h rfl)]
  have hr : planR (bodyL d) 3 = .ok (planX d, (bodyL d).length) := by
    have := rds_planL hn hf [83, 89, 1] []
    rw [List.append_nil] at this
    refine this.trans ?_
    unfold bodyL
    rw [List.length_append]
  have hk : chkP (planP (planX d)) = chkP d.p := chk_same (eq_plan d fun y hy => (hn.ss.2 y hy).2.1)
  unfold decX
  rw [hfr, if_neg (by decide), et, hr]
  dsimp only
  rw [if_neg (Nat.lt_irrefl _), hk, if_neg (by rw [hc]; decide)]
theorem enc_dec {zs : List Int} (hz : ∀ z ∈ zs, 0 ≤ z ∧ z < 256) {x : PlanX} (h : decX zs = some x) {d : PlanD} {w : World} (hl : d.lie w) (hp : d.p = planP x) : (chkP d.p).1 = 0 ∧ encL d = zs ∧ x.few 8000 := by
  unfold decX at h
  by_cases hf : (frameF zs).1 ≠ 0
  · rw [if_pos hf] at h; cases h
  rw [if_neg hf] at h
  obtain ⟨_, h7, h8, hm, hs⟩ := frame_ok (Classical.not_not.1 hf)
  have htl : (zs.take (zs.length - 4)).length = zs.length - 4 := by rw [List.length_take]; omega
  cases hr : planR (zs.take (zs.length - 4)) 3 with
  | error e => rw [hr] at h; cases h
  | ok y =>
    obtain ⟨x', u⟩ := y
    rw [hr] at h
    dsimp only at h
    by_cases hu : u < (zs.take (zs.length - 4)).length
    · rw [if_pos hu] at h; cases h
    rw [if_neg hu] at h
    by_cases hk : (chkP (planP x')).1 ≠ 0
    · rw [if_pos hk] at h; cases h
    rw [if_neg hk] at h
    cases h
    have hw := wrs_plan (zs.take (zs.length - 4)) 3 x u (fun z hz' => hz z (List.mem_of_mem_take hz')) hr
    rw [List.drop_eq_nil_of_le (Nat.le_of_not_lt hu), List.append_nil] at hw
    dsimp only at hw
    rw [← hp, ← planL_p hl] at hw
    have hb : bodyL d = zs.take (zs.length - 4) := by
      unfold bodyL
      rw [← hw, ← hm]
      have : (zs.take (zs.length - 4)).take 3 = zs.take 3 := by rw [List.take_take]; congr 1; omega
      rw [← this]
      exact List.take_append_drop 3 _
    refine ⟨by rw [hp]; exact Classical.not_not.1 hk, ?_, tls_plan 8000 _ 3 x u (by rw [htl]; omega) hr⟩
    unfold encL
    rw [hb, ← hs]
    exact List.take_append_drop _ zs
end Go.Proofs.YtedeiaokohdhpaaGreat
