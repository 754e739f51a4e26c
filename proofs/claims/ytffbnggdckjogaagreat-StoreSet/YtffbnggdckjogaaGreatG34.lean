/- Texts of one chain, joined: SAll. -/
import Derived.Test.YtffbnggdckjogaaGreatG30
import Derived.Test.YtffbnggdckjogaaGreatG31
import Derived.Test.YtffbnggdckjogaaGreatG32
import Derived.Test.YtffbnggdckjogaaGreatG33
import Derived.Test.YtffbnggdckjogaaGreatG47
import Derived.Test.YtffbnggdckjogaaGreatG21
import Derived.Test.YtffbnggdckjogaaGreatG27
namespace Go.Proofs.YtffbnggdckjogaaGreat
open Go.RowKit Mth
def AllIs (w : World) (k : FK) (s : FSt) (v : Value) : Prop :=
  (k.kind = 1 ∧ Ex.Ents w v ((Ex.rising s.ss).map (Ex.entOf s.Cx))) ∨ (k.kind = 2 ∧ ∃ a c, v = .slice a s.es.length c ∧ Ents w a s.es.length (allOf s.C k.wd)) ∨ (k.kind = 3 ∧ ∃ a c, v = .slice a s.T.length c ∧ MEnts w a s.T.length s.T)
def faceLen (k : FK) (s : FSt) : Nat := if k.kind = 1 then s.ss.length else if k.kind = 2 then s.es.length else s.T.length
theorem AllIs.step {w w' : World} {k : FK} {s : FSt} {v : Value} (h : AllIs w k s v) (hb : Below w.heap.size w w') : AllIs w' k s v := by
  rcases h with ⟨e, h⟩ | ⟨e, a, c, ev, h⟩ | ⟨e, a, c, ev, h⟩
  · exact .inl ⟨e, h.grew (Ex.grew_below hb)⟩
  · exact .inr (.inl ⟨e, a, c, ev, h.moved (moved_below hb)⟩)
  · exact .inr (.inr ⟨e, a, c, ev, h.step hb⟩)
theorem all_same {w : World} {k : FK} {s : FSt} {u v : Value} (hf : FaceAt w k s) (hu : AllIs w k s u) (hv : AllIs w k s v) :
    Calls Tryz.prog 13 #[u, v] w fun e w' => e = .returned (.bool true) ∧ Below w.heap.size w w' := by
  rcases hu with ⟨e, hu⟩ | ⟨e, a, c, rfl, hu⟩ | ⟨e, a, c, rfl, hu⟩
  · rcases hv with ⟨_, hv⟩ | ⟨e', _⟩ | ⟨e', _⟩
    · rcases hf with ⟨_, t, _, _, h3⟩ | ⟨e', _⟩ | ⟨e', _⟩
      · refine Ex.same_entries ?_ hu hv
        rw [List.length_map, Ex.rising_length]
        exact Nat.le_trans t.most h3
      · omega
      · omega
    · omega
    · omega
  · rcases hv with ⟨e', _⟩ | ⟨_, b, d, rfl, hv⟩ | ⟨e', _⟩
    · omega
    · rcases hf with ⟨e', _⟩ | ⟨_, t, h1, _⟩ | ⟨e', _⟩
      · omega
      · exact same_entries h1 hu hv
      · omega
    · omega
  · rcases hv with ⟨e', _⟩ | ⟨e', _⟩ | ⟨_, b, d, rfl, hv⟩
    · omega
    · omega
    · rcases hf with ⟨e', _⟩ | ⟨e', _⟩ | ⟨_, t, h1, _⟩
      · omega
      · omega
      · exact msame_entries h1 hu hv
theorem face1_all {w : World} {k : FK} {s : FSt} (hk : k.kind = 1) (h : FaceAt w k s) : Calls Tryz.prog 55 #[.pointer (some ⟨k.p, 0, none⟩)] w fun r w' => ∃ v, r = .returned v ∧ AllIs w' k s v ∧ Below w.heap.size w w' := by
  rcases h with ⟨_, t, _, h2, h3⟩ | ⟨e, _⟩ | ⟨e, _⟩
  · exact (Ex.all_any t h2 h3).mono fun r w' ⟨v, e, h, b⟩ => ⟨v, e, .inl ⟨hk, h⟩, b⟩
  · omega
  · omega
theorem face2_all {w : World} {k : FK} {s : FSt} (hk : k.kind = 2) (h : FaceAt w k s) : Calls Tryz.prog 96 #[.pointer (some ⟨k.p, 0, none⟩)] w fun r w' => ∃ v, r = .returned v ∧ AllIs w' k s v ∧ Below w.heap.size w w' := by
  rcases h with ⟨e, _⟩ | ⟨_, t, h1, _⟩ | ⟨e, _⟩
  · omega
  · exact (all_any t h1).mono fun r w' ⟨a, c, e, h, b⟩ => ⟨_, e, .inr (.inl ⟨hk, a, c, rfl, h⟩), b⟩
  · omega
def AllNew (w : World) (B : Nat) (k : FK) (s : FSt) (v : Value) : Prop := k.kind = 3 → ∃ a c, v = .slice a s.T.length c ∧ MEntsN w B a s.T.length s.T
theorem face3_allN {w : World} {k : FK} {s : FSt} (hk : k.kind = 3) (h : FaceAt w k s) : Calls Tryz.prog 115 #[.pointer (some ⟨k.p, 0, none⟩)] w fun r w' => ∃ v, r = .returned v ∧ AllIs w' k s v ∧ AllNew w' w.heap.size k s v ∧ Below w.heap.size w w' := by
  rcases h with ⟨e, _⟩ | ⟨e, _⟩ | ⟨_, t, h1, _⟩
  · omega
  · omega
  · exact (mall_any t h1).mono fun r w' ⟨a, c, e, h, b⟩ => ⟨_, e, .inr (.inr ⟨hk, a, c, rfl, h.ents⟩), fun _ => ⟨a, c, rfl, h⟩, b⟩
end Go.Proofs.YtffbnggdckjogaaGreat
