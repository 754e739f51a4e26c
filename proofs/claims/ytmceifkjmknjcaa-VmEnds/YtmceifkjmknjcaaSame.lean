/- What shuntyardref.SameBytes answers of the same bytes. -/
import Derived.Test.YtmceifkjmknjcaaBase
import Derived.Laws.IdiomStrings
namespace Go.Proofs.Ytmceifkjmknjcaa
open Go.RowKit

def str (zs : List Int) : ByteArray := ⟨(zs.map fun n => UInt8.ofNat n.toNat).toArray⟩

theorem conv_bytes {w : World} {a : Option Addr} {len : Nat} {zs : List Int} (cap : Nat) (h : Has .u8 w a len zs) : (convert 26 9 (.slice a len cap)).run Try.prog w = .ok (.string (str zs)) w := by
  have hb := h.bytes
  rcases h.2.2 with h0 | ⟨b, off, rfl, hlt, hc⟩
  · subst h0
    have hl : len = 0 := by have := h.1; simpa using this.symm
    subst hl
    rw [run_convert_bytes_string w 26 9 5 a 0 cap Try.underlying26 Try.underlying5 Try.underlying9]
    cases a
    · rfl
    · rfl
  · have hl := h.1
    have e : len = (zs.map fun n => UInt8.ofNat n.toNat).length := by simp [hl]
    conv => lhs; rw [e]
    rw [run_convert_bytes_back w 26 9 5 ⟨b, off, none⟩ cap (zs.map fun n => UInt8.ofNat n.toNat) Try.underlying26 Try.underlying5 Try.underlying9]
    · rfl
    · intro j hj
      simp only [List.length_map] at hj
      rw [Addr.add_lit, hc j (by omega)]
      have := hb j
      simp only [List.getD_eq_getElem?_getD, List.getElem?_eq_getElem hj, Option.getD_some] at this ⊢
      simp only [List.getElem_map]
      congr 2
      simp only [UInt8.toNat_ofNat']
      omega

set_option maxHeartbeats 400000 in
set_option maxRecDepth 20000 in
theorem same_bytes {w : World} {a b : Option Addr} {len : Nat} {zs : List Int} (c d : Nat) (ha : Has .u8 w a len zs) (hb : Has .u8 w b len zs) :
    Calls Try.prog 10 #[.slice a len c, .slice b len d] w fun e w' => e = .returned (.bool true) ∧ w' = w := by
  have k1 := conv_bytes c ha
  have k2 := conv_bytes d hb
  clear ha hb
  go_enter Try.func10, Try.ntmps10
  go_wp2
  go_ret
  exact ⟨rfl, rfl⟩
end Go.Proofs.Ytmceifkjmknjcaa
