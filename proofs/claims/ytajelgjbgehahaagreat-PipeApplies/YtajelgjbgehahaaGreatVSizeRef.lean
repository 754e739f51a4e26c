/- What the document's SizeOf does; both are one. -/
import Derived.Test.YtajelgjbgehahaaGreatVSize
namespace Go.Proofs.YtajelgjbgehahaaGreat
open Go.RowKit

theorem bl2 {w w' : World} {a : Option Addr} {m c : Nat} (h : Below ((w.alloc (H0 a m c)).alloc F0).heap.size ((w.alloc (H0 a m c)).alloc F0) w') : Below (w.heap.size + 2) ((w.alloc (H0 a m c)).alloc F0) w' := by
  simpa using h

end Go.Proofs.YtajelgjbgehahaaGreat
