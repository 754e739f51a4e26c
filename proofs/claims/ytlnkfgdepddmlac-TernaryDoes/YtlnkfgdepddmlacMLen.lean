/- Len of a table by masks. -/
import Derived.Test.YtlnkfgdepddmlacMPerm
namespace Go.Proofs.Ytlnkfgdepddmlac
open Go.RowKit Mth

set_option maxHeartbeats 1000000 in
set_option maxRecDepth 20000 in
theorem mlen_any {w : World} {B p : Nat} {keys most : Int} {T : List TE} (t : MTab w B p keys most T) :
    Calls Try.prog 33 #[.pointer (some ⟨p, 0, none⟩)] w fun r w' => r = .returned (.int .i64 T.length) ∧ w' = w := by
  obtain ⟨la, cap, p2, -⟩ := t.lst
  clear t
  go_enter Try.func33, Try.ntmps33
  go_wp2
  go_ret
  exact ⟨rfl, rfl⟩
end Go.Proofs.Ytlnkfgdepddmlac
