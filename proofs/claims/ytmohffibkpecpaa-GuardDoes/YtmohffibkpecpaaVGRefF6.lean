/- The document's insForm. -/
import Derived.Test.YtmohffibkpecpaaVGRefF2
import Derived.Test.YtmohffibkpecpaaVGRefF3
import Derived.Test.YtmohffibkpecpaaVGRefF4
import Derived.Test.YtmohffibkpecpaaVGRefF5
namespace Go.Proofs.Ytmohffibkpecpaa
open Go.RowKit

theorem rinsForm (d : ProgD) (x : InsD) (w : World) (hl : d.lie w) (hs : OkSz d) (hx : x.wf) : Calls Try.prog 26 #[d.v, x.v] w (TellB (formB x && fitsB d.slots d.ts x) w) := by
  cases h : (inB x.op 1 18 && bareB x) with
  | false => exact rinsBad d x w hl hs hx h
  | true =>
    simp only [Bool.and_eq_true] at h
    obtain ⟨hin, hb⟩ := h
    have hr : 1 ≤ x.op ∧ x.op ≤ 18 := by simpa [inB] using hin
    rcases ins_ways x.op with h | h | h | h | h | h | h | h | h | h | h | h | h | h | h | h | h | h | h
    · exact rinsOp1 d x w hl hs hx h hb
    · exact rinsOp2 d x w hl hs hx h hb
    · exact rinsOp3 d x w hl hs hx h hb
    · exact rinsOp4 d x w hl hs hx h hb
    · exact rinsOp5 d x w hl hs hx h hb
    · exact rinsOp6 d x w hl hs hx h hb
    · exact rinsOp7 d x w hl hs hx h hb
    · exact rinsOp8 d x w hl hs hx h hb
    · exact rinsOp9 d x w hl hs hx h hb
    · exact rinsOp10 d x w hl hs hx h hb
    · exact rinsOp11 d x w hl hs hx h hb
    · exact rinsOp12 d x w hl hs hx h hb
    · exact rinsOp13 d x w hl hs hx h hb
    · exact rinsOp14 d x w hl hs hx h hb
    · exact rinsOp15 d x w hl hs hx h hb
    · exact rinsOp16 d x w hl hs hx h hb
    · exact rinsOp17 d x w hl hs hx h hb
    · exact rinsOp18 d x w hl hs hx h hb
    · exfalso
      omega
end Go.Proofs.Ytmohffibkpecpaa
