/-
  No cell of these rows narrows 'for every input' (looked for: loops, veiled, ifaces, maps, wideKeys, modest, calm, conditions, laid).
  DERIVED. THE GIVEN ROWS OF THIS SEAT. 5 by the template 'for every input the law returns true; each argument reads behind the call as it read before'; 0 by the template 'total and deterministic' (their statements: YtfpefjadlbphiabTotals.lean).
  GIVEN WITH THE SEED: the statements are not yours to turn. If you find one false, say at which input.
  Laid BY PROGRAM, IN A SANDBOX (cutbox-rows.mjs): the forced cells as the released guide's own fill.sh prints them over the translation e5072b18671cb86b… (all of the seat's roots in one cut). By AI agents, Wed Nov 11 2026. No macro, syntax, notation, axiom, sorry.
-/
import Derived.Test.YtfpefjadlbphiabChecked
import GoSem.Claim
import GoSem.ClaimJoined
import GoSem.ClaimMapViews
import Derived.JoinedTies
import Derived.KernelRfl
namespace Go.Proofs.Ytfpefjadlbphiab
/- THE CELL 'sum', in the pinned program and in every row, IS THE sha256 OF THE DUMP (.gsa) THAT YtfpefjadlbphiabProg.lean LOADS. Nothing in Lean hashes anything: it is a label: what it is worth is what the hold of that sum in a sandbox is worth. -/
noncomputable def Try.pinned : Pinned := { name := "ytfpefjadlbphiab", sum := "e5072b18671cb86bd62bc3a92cc48c3105b47675dd4877ba5d97a542bd881a0d", checked := Try.checked }
namespace Rows
def none {H : Type} : Left H := { results := [], args := [] }

/-- 'shuntyardlaw.SumRight': WHATEVER THE INPUT: true; the input reads as it did. -/
def sumRightSpec : ChangeSpec := { name := "sumRight", fn := fun _ => fun
  | [d1, d2, d3, d4] => { results := [.lit (.bool true)], args := [d1, d2, d3, d4] }
  | _ => none }
def sumRightRow : OpenClaim := { program := "ytfpefjadlbphiab", sum := "e5072b18671cb86bd62bc3a92cc48c3105b47675dd4877ba5d97a542bd881a0d", func := "shuntyard/shuntyardlaw.SumRight", spec := "sumRight", apart := false }
def SumRightSaid : Prop := sumRightRow.holds Try.pinned (OpenSpec.ofChange sumRightSpec)

/-- ITS FALSE NEIGHBOUR: 'it returns false'. Refute it at one input. -/
def sumRightWrong : ChangeSpec := { name := "sumRight", fn := fun _ => fun
  | [d1, d2, d3, d4] => { results := [.lit (.bool false)], args := [d1, d2, d3, d4] }
  | _ => none }
def SumRightWrongFalsely : Prop := sumRightRow.holds Try.pinned (OpenSpec.ofChange sumRightWrong)

/-- 'shuntyardlaw.SumParts': WHATEVER THE INPUT: true; the input reads as it did. -/
def sumPartsSpec : ChangeSpec := { name := "sumParts", fn := fun _ => fun
  | [d1, d2] => { results := [.lit (.bool true)], args := [d1, d2] }
  | _ => none }
def sumPartsRow : OpenClaim := { program := "ytfpefjadlbphiab", sum := "e5072b18671cb86bd62bc3a92cc48c3105b47675dd4877ba5d97a542bd881a0d", func := "shuntyard/shuntyardlaw.SumParts", spec := "sumParts", apart := false }
def SumPartsSaid : Prop := sumPartsRow.holds Try.pinned (OpenSpec.ofChange sumPartsSpec)

/-- ITS FALSE NEIGHBOUR: 'it returns false'. Refute it at one input. -/
def sumPartsWrong : ChangeSpec := { name := "sumParts", fn := fun _ => fun
  | [d1, d2] => { results := [.lit (.bool false)], args := [d1, d2] }
  | _ => none }
def SumPartsWrongFalsely : Prop := sumPartsRow.holds Try.pinned (OpenSpec.ofChange sumPartsWrong)

/-- 'shuntyardlaw.PackDoes': WHATEVER THE INPUT: true; the input reads as it did. -/
def packDoesSpec : ChangeSpec := { name := "packDoes", fn := fun _ => fun
  | [d1, d2, d3, d4, d5] => { results := [.lit (.bool true)], args := [d1, d2, d3, d4, d5] }
  | _ => none }
def packDoesRow : OpenClaim := { program := "ytfpefjadlbphiab", sum := "e5072b18671cb86bd62bc3a92cc48c3105b47675dd4877ba5d97a542bd881a0d", func := "shuntyard/shuntyardlaw.PackDoes", spec := "packDoes", apart := false }
def PackDoesSaid : Prop := packDoesRow.holds Try.pinned (OpenSpec.ofChange packDoesSpec)

/-- ITS FALSE NEIGHBOUR: 'it returns false'. Refute it at one input. -/
def packDoesWrong : ChangeSpec := { name := "packDoes", fn := fun _ => fun
  | [d1, d2, d3, d4, d5] => { results := [.lit (.bool false)], args := [d1, d2, d3, d4, d5] }
  | _ => none }
def PackDoesWrongFalsely : Prop := packDoesRow.holds Try.pinned (OpenSpec.ofChange packDoesWrong)

/-- 'shuntyardlaw.PackBack': WHATEVER THE INPUT: true; the input reads as it did. -/
def packBackSpec : ChangeSpec := { name := "packBack", fn := fun _ => fun
  | [d1, d2, d3, d4] => { results := [.lit (.bool true)], args := [d1, d2, d3, d4] }
  | _ => none }
def packBackRow : OpenClaim := { program := "ytfpefjadlbphiab", sum := "e5072b18671cb86bd62bc3a92cc48c3105b47675dd4877ba5d97a542bd881a0d", func := "shuntyard/shuntyardlaw.PackBack", spec := "packBack", apart := false }
def PackBackSaid : Prop := packBackRow.holds Try.pinned (OpenSpec.ofChange packBackSpec)

/-- ITS FALSE NEIGHBOUR: 'it returns false'. Refute it at one input. -/
def packBackWrong : ChangeSpec := { name := "packBack", fn := fun _ => fun
  | [d1, d2, d3, d4] => { results := [.lit (.bool false)], args := [d1, d2, d3, d4] }
  | _ => none }
def PackBackWrongFalsely : Prop := packBackRow.holds Try.pinned (OpenSpec.ofChange packBackWrong)

/-- 'shuntyardlaw.ExactSet': WHATEVER THE INPUT: true; the input reads as it did. -/
def exactSetSpec : ChangeSpec := { name := "exactSet", fn := fun _ => fun
  | [d1, d2, d3] => { results := [.lit (.bool true)], args := [d1, d2, d3] }
  | _ => none }
def exactSetRow : OpenClaim := { program := "ytfpefjadlbphiab", sum := "e5072b18671cb86bd62bc3a92cc48c3105b47675dd4877ba5d97a542bd881a0d", func := "shuntyard/shuntyardlaw.ExactSet", spec := "exactSet", unfollowed := true, recurses := true, apart := false }
def ExactSetSaid : Prop := exactSetRow.holds Try.pinned (OpenSpec.ofChange exactSetSpec)

/-- ITS FALSE NEIGHBOUR: 'it returns false'. Refute it at one input. -/
def exactSetWrong : ChangeSpec := { name := "exactSet", fn := fun _ => fun
  | [d1, d2, d3] => { results := [.lit (.bool false)], args := [d1, d2, d3] }
  | _ => none }
def ExactSetWrongFalsely : Prop := exactSetRow.holds Try.pinned (OpenSpec.ofChange exactSetWrong)

/- THE SECOND FORM. 'bulk': how many values and letters a reading holds, each counted each time it is reached (what is shared counts as often as it is met; a slice's spare places count too). A statement '..UptoSaid' is the law's where the arguments, and the package variables that the reading takes, are together of bulk at most 1048576: NARROWER than '..Said'. Prove '..Said' where nothing that the law and all that it calls make is longer than what came in: it says more and counts as full. Else prove '..UptoSaid'. A law counts once. -/
mutual
def uptoBulk {H : Type} : DataW H → Nat
  | .lit (.string bytes) => bytes.length + 1
  | .lit _ => 1
  | .nil => 1
  | .ptr d => uptoBulk d + 1
  | .slice elems spare => uptoBulkAll elems + uptoBulkAll spare + 1
  | .agg parts => uptoBulkAll parts + 1
  | .iface _ d => uptoBulk d + 1
  | .map entries => uptoBulkEntries entries + 1
  | .held _ => 1
def uptoBulkAll {H : Type} : List (DataW H) → Nat
  | [] => 0
  | d :: r => uptoBulk d + uptoBulkAll r
def uptoBulkEntries {H : Type} : List (Lit × DataW H) → Nat
  | [] => 0
  | x :: r => uptoBulkEntry x + uptoBulkEntries r
def uptoBulkEntry {H : Type} : Lit × DataW H → Nat
  | (.string bytes, d) => bytes.length + uptoBulk d + 1
  | (_, d) => uptoBulk d + 1
 end
def uptoSmall : (H : Type) → List (DataW H) → Bool := fun _ ds => decide (uptoBulkAll ds ≤ 1048576)
def OpenSpec.upto (s : _root_.Go.ChangeSpec) : _root_.Go.OpenSpec := { _root_.Go.OpenSpec.ofChange s with cond := some uptoSmall }

/-- 'shuntyardlaw.SumRight', WHERE WHAT IT READS IS OF BULK AT MOST 1048576: true; the input reads as it did. -/
def sumRightUptoRow : OpenClaim := { program := "ytfpefjadlbphiab", sum := "e5072b18671cb86bd62bc3a92cc48c3105b47675dd4877ba5d97a542bd881a0d", func := "shuntyard/shuntyardlaw.SumRight", spec := "sumRight", apart := false, narrowed := true }
def SumRightUptoSaid : Prop := sumRightUptoRow.holds Try.pinned (OpenSpec.upto sumRightSpec)

/-- 'shuntyardlaw.SumParts', WHERE WHAT IT READS IS OF BULK AT MOST 1048576: true; the input reads as it did. -/
def sumPartsUptoRow : OpenClaim := { program := "ytfpefjadlbphiab", sum := "e5072b18671cb86bd62bc3a92cc48c3105b47675dd4877ba5d97a542bd881a0d", func := "shuntyard/shuntyardlaw.SumParts", spec := "sumParts", apart := false, narrowed := true }
def SumPartsUptoSaid : Prop := sumPartsUptoRow.holds Try.pinned (OpenSpec.upto sumPartsSpec)

/-- 'shuntyardlaw.PackDoes', WHERE WHAT IT READS IS OF BULK AT MOST 1048576: true; the input reads as it did. -/
def packDoesUptoRow : OpenClaim := { program := "ytfpefjadlbphiab", sum := "e5072b18671cb86bd62bc3a92cc48c3105b47675dd4877ba5d97a542bd881a0d", func := "shuntyard/shuntyardlaw.PackDoes", spec := "packDoes", apart := false, narrowed := true }
def PackDoesUptoSaid : Prop := packDoesUptoRow.holds Try.pinned (OpenSpec.upto packDoesSpec)

/-- 'shuntyardlaw.PackBack', WHERE WHAT IT READS IS OF BULK AT MOST 1048576: true; the input reads as it did. -/
def packBackUptoRow : OpenClaim := { program := "ytfpefjadlbphiab", sum := "e5072b18671cb86bd62bc3a92cc48c3105b47675dd4877ba5d97a542bd881a0d", func := "shuntyard/shuntyardlaw.PackBack", spec := "packBack", apart := false, narrowed := true }
def PackBackUptoSaid : Prop := packBackUptoRow.holds Try.pinned (OpenSpec.upto packBackSpec)

/-- 'shuntyardlaw.ExactSet', WHERE WHAT IT READS IS OF BULK AT MOST 1048576: true; the input reads as it did. -/
def exactSetUptoRow : OpenClaim := { program := "ytfpefjadlbphiab", sum := "e5072b18671cb86bd62bc3a92cc48c3105b47675dd4877ba5d97a542bd881a0d", func := "shuntyard/shuntyardlaw.ExactSet", spec := "exactSet", unfollowed := true, recurses := true, apart := false, narrowed := true }
def ExactSetUptoSaid : Prop := exactSetUptoRow.holds Try.pinned (OpenSpec.upto exactSetSpec)

end Rows
end Go.Proofs.Ytfpefjadlbphiab
