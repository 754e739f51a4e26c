/- Texts of one chain, joined: Ref2, Ref3, Ref4, Ref5, Ref6, Ref7, Part2, Part3, Same, Both. -/
import Derived.Test.YtajelgjbgehahaaGreatJ1
import Derived.Deep.RegionLaw
import Derived.Laws.IdiomStrings
import Derived.Laws.AppendOwnNone
namespace Go.Proofs.YtajelgjbgehahaaGreat
open Go.RowKit

theorem one_cell8 (w : World) (y : Value) : ∀ (j : Nat) (u : Value), [y][j]? = some u → (w.alloc (.cells #[y] 5)).cell? ((⟨w.heap.size, 0, none⟩ : Addr).add j) = some u := by
  intro j u hj
  match j, hj with
  | 0, hj => simp at hj; subst hj; simp [Addr.add]

theorem push8 {w : World} {base n : Nat} {v : Value} {ys : List Int} {x y : Int} (h : w.ownsRow base 5 1 v (n + 1) (BB ys ++ [.int .u8 x])) (e : x = y) : w.ownsRow base 5 1 v (n + 1) (BB (ys ++ [y])) := by
  subst e
  simpa [BB] using h

theorem bit_cell (v m : Nat) (hv : v < 18446744073709551616) : bits BinOp.and IntKind.u64 ((v : Int) / 2 ^ m) 1 % 256 = ((v.testBit m).toNat : Int) := by
  have e : ((v : Int) / 2 ^ m) = ((v / 2 ^ m : Nat) : Int) := by simp
  have hd : v / 2 ^ m ≤ v := Nat.div_le_self _ _
  rw [e, and_one_u64 _ (Int.natCast_nonneg _) (by omega), Nat.testBit_eq_decide_div_mod_eq]
  generalize v / 2 ^ m = u
  have : u % 2 = 0 ∨ u % 2 = 1 := by omega
  rcases this with e | e
  · have e' : (u : Int) % 2 = 0 := by omega
    rw [e, e']; decide
  · have e' : (u : Int) % 2 = 1 := by omega
    rw [e, e']; decide

end Go.Proofs.YtajelgjbgehahaaGreat

namespace Go.Proofs.YtajelgjbgehahaaGreat
open Go.RowKit

theorem bit_cell8 (zs : List Int) (i j : Nat) (hj : j < 8) (h : 0 ≤ zs[i]?.getD 0 ∧ zs[i]?.getD 0 < 256) : bits BinOp.and IntKind.u8 (zs[i]?.getD 0 / 2 ^ (7 - j)) 1 = ((Mth.bit zs (8 * i + j)).toNat : Int) := by
  unfold Mth.bit
  rw [show (8 * i + j) / 8 = i from by omega, show (8 * i + j) % 8 = j from by omega, List.getD_eq_getElem?_getD, Nat.testBit_eq_decide_div_mod_eq]
  generalize zs[i]?.getD 0 = z at *
  obtain ⟨x, rfl⟩ := Int.eq_ofNat_of_zero_le h.1
  have e : ((x : Int) / 2 ^ (7 - j)) = ((x / 2 ^ (7 - j) : Nat) : Int) := by simp
  have hd : x / 2 ^ (7 - j) ≤ x := Nat.div_le_self _ _
  rw [e, Int.toNat_natCast]
  generalize x / 2 ^ (7 - j) = u at *
  rw [show (1 : Int) = ((1 : Nat) : Int) from rfl, u8_and_nat u 1 (by omega) (by omega), Nat.and_one_is_mod]
  have : u % 2 = 0 ∨ u % 2 = 1 := by omega
  rcases this with e | e <;> rw [e] <;> decide

end Go.Proofs.YtajelgjbgehahaaGreat

namespace Go.Proofs.YtajelgjbgehahaaGreat
open Go.RowKit

theorem px_in (l : List Int) (i k : Nat) (hk : k < 8) (hb : Mth.IsBits l) : IntKind.u8.wrap (IntKind.u8.wrap ((Mth.px l i k : Int) * 2) + l.getD (i + k) 0) = (Mth.px l i (k + 1) : Int) := by
  have h1 := Mth.px_lt l i k hb
  have h2 : 2 ^ k ≤ 2 ^ 7 := Nat.pow_le_pow_right (by decide) (by omega)
  have h3 := hb (i + k)
  rw [IntKind.wrap_u8', IntKind.wrap_u8', Mth.px]
  omega

theorem px_out (l : List Int) (i k : Nat) (hk : k < 8) (hb : Mth.IsBits l) (h : l.length ≤ i + k) : IntKind.u8.wrap ((Mth.px l i k : Int) * 2) = (Mth.px l i (k + 1) : Int) := by
  have h1 := Mth.px_lt l i k hb
  have h2 : 2 ^ k ≤ 2 ^ 7 := Nat.pow_le_pow_right (by decide) (by omega)
  rw [IntKind.wrap_u8', Mth.px, Mth.getD_ge _ _ h]
  simp only [Int.toNat_zero, Nat.add_zero]
  omega

end Go.Proofs.YtajelgjbgehahaaGreat

namespace Go.Proofs.YtajelgjbgehahaaGreat
open Go.RowKit

/-- a piece of a row lies as Has says -/
theorem has_cut {w : World} {g n : Nat} {zs : List Int} (h : Has .u8 w (some ⟨g, 0, none⟩) n zs) (t k : Nat) (hk : t + k ≤ n) (h0 : 0 < k) : Has .u8 w (some ⟨g, t, none⟩) k ((zs.drop t).take k) := by
  obtain ⟨b, off, e, hlt, hc⟩ := h.some (by omega)
  simp only [Option.some.injEq, Addr.mk.injEq, and_true] at e
  obtain ⟨rfl, rfl⟩ := e
  have hl := h.1
  refine ⟨by rw [List.length_take, List.length_drop]; omega, fun n hn => h.2.1 n (List.mem_of_mem_drop (List.mem_of_mem_take hn)), .inr ⟨g, t, rfl, hlt, fun i hi => ?_⟩⟩
  have := hc (t + i) (by omega)
  rw [Nat.zero_add] at this
  rw [this]
  simp only [List.getD_eq_getElem?_getD, List.getElem?_take, if_pos hi, List.getElem?_drop]

theorem cut_bits (zs : List Int) (t k N : Nat) (h : t + k ≤ N) (j : Nat) (hj : j < k) : (((Mth.bo zs N).drop t).take k).getD j 0 = ((Mth.bit zs (t + j)).toNat : Int) := by
  have := Mth.bo_at zs N (t + j) (by omega)
  simp only [List.getD_eq_getElem?_getD] at this
  simp only [List.getD_eq_getElem?_getD, List.getElem?_take, if_pos hj, List.getElem?_drop, this]

theorem cut_isbits (zs : List Int) (t k N : Nat) : Mth.IsBits (((Mth.bo zs N).drop t).take k) := by
  intro j
  by_cases hj : j < k
  · have := Mth.bo_bits zs N (t + j)
    simp only [List.getD_eq_getElem?_getD] at this
    simpa only [List.getD_eq_getElem?_getD, List.getElem?_take, if_pos hj, List.getElem?_drop] using this
  · left; simp [List.getD_eq_getElem?_getD, List.getElem?_take, hj]

theorem bo_bytes (zs : List Int) (k : Nat) : Mth.Bytes (Mth.bo zs k) := by
  intro i
  have := Mth.bo_bits zs k i
  omega

end Go.Proofs.YtajelgjbgehahaaGreat

namespace Go.Proofs.YtajelgjbgehahaaGreat
open Go.RowKit

theorem has_piece {w : World} {g n : Nat} {zs : List Int} (h : Has .u8 w (some ⟨g, 0, none⟩) n zs) (ad : Addr) (t k : Nat) (hk : t + k ≤ n) (had : 0 < k → ad = ⟨g, t, none⟩) : Has .u8 w (some ad) k ((zs.drop t).take k) := by
  by_cases h0 : 0 < k
  · rw [had h0]; exact has_cut h t k hk h0
  · have e : k = 0 := by omega
    subst e
    exact ⟨by simp, by simp, .inl (by simp)⟩

/-- one append of a region: bytes behind a row of the call's own -/
theorem step8 {ops : Array Oper} {o : Oper} {a : Act} {w : World} {K : Act → World → Prop} {Q : Exit → Act → World → Prop} {E : Prop} (hgd : o.guard = none) (s x : Operand)
    (ho : o.op = .call { callee := .builtin .append, args := #[s, x], argTypes := #[40, 40] }) (base n m c : Nat) (v : Value) (ys zs : List Int) (ad : Addr)
    (hs : a.eval s = v) (hx : a.eval x = .slice (some ad) m c) (hown : w.ownsRow base 5 1 v n (BB ys)) (hz : Has .u8 w (some ad) m zs) (hsmall : n + m ≤ 10000000) (hbase : base ≤ w.heap.size)
    (h : ∀ v' w', w'.ownsRow base 5 1 v' (n + m) (BB (ys ++ zs)) → Below base w w' → K (a.put o.dst v') w') :
    if Region.wanted o (yielded ops a.tmps) = true then Oper.wp Tryz.prog o a w K Q else E := by
  have hw : Region.wanted o (yielded ops a.tmps) = true := by simp [Region.wanted, hgd]
  rw [if_pos hw]
  obtain ⟨i0, hi, hz0, hz1, hz2⟩ := info_parts Tryz.info5
  refine wp_append_own w s x 40 ho base 5 i0 (.int .u8 0) 1 1 Tryz.underlying40 hi hz0 hz1 hz2 rfl (by decide) v n (BB ys) hs hown ad m c (BB zs) hx (by have := hz.1; simp [BB]; omega) (has_cells hz) (bb_one zs) (by unfold maxLen; omega) (by omega) hbase ?_
  intro v' w' h1 h2 _
  refine h v' w' (by simpa [BB] using h1) ((Below.refl _ _).grown h2 hbase ?_)
  intro k hk
  exact (hown.lt k hk).1

theorem bits_bytes {l : List Int} (h : Mth.IsBits l) : Mth.Bytes l := by
  intro i
  have := h i
  omega

theorem nb_bytes (v n k : Nat) : Mth.Bytes (Mth.nb v n k) := by
  intro i
  have := Mth.nb_bits v n k i
  omega

end Go.Proofs.YtajelgjbgehahaaGreat

namespace Go.Proofs.YtajelgjbgehahaaGreat
open Go.RowKit

end Go.Proofs.YtajelgjbgehahaaGreat

namespace Go.Proofs.YtajelgjbgehahaaGreat
open Go.RowKit

set_option maxHeartbeats 2000000 in
set_option maxRecDepth 20000 in
theorem part_bad (a b : Option Addr) (len c m d i : Nat) (t : Int) (zs ws : List Int) (w : World) (hl : len ≤ 100000) (hm : m ≤ 1000) (hz : Has .u8 w a len zs) (hw : Has .i64 w b m ws)
    (him : i < m) (hgood : ∀ j, j < i → codeOf len (t + (Mth.off ws j : Int)) (ws.getD j 0) = 0) (hbad : codeOf len (t + (Mth.off ws i : Int)) (ws.getD i 0) ≠ 0) :
    Calls Tryz.prog 112 #[.slice a len c, .int .i64 t, .slice b m d] w fun e w' => e = .returned (.tuple #[.slice none 0 0, .agg #[.int .i64 (codeOf len (t + (Mth.off ws i : Int)) (ws.getD i 0)), .int .i64 i]]) ∧ Below w.heap.size w w' := by
  have HB : Hid (codeOf len (t + (Mth.off ws i : Int)) (ws.getD i 0) ≠ 0) := hbad
  have HG : Hid (∀ j, j < i → codeOf len (t + (Mth.off ws j : Int)) (ws.getD j 0) = 0) := hgood
  obtain ⟨i0, hi, hz0, hz1, hz2⟩ := info_parts Tryz.info22
  clear hgood hbad
  generalize hCC : codeOf len (t + (Mth.off ws i : Int)) (ws.getD i 0) = CC at *
  have HCC : Hid (codeOf len (t + (Mth.off ws i : Int)) (ws.getD i 0) = CC) := hCC
  clear hCC
  go_enter Tryz.func112, Tryz.ntmps112
  go_wp2
  go_loopw [1, 8, 15] (fun s v q wr => ∃ k : Nat, k ≤ i ∧ q = .int .i64 k ∧ s = .int .i64 (t + (Mth.off ws k : Int)) ∧ wr.ownsRow (w.heap.size + 1) 22 1 v k (UU (Mth.parts zs t ws k)) ∧ Below (w.heap.size + 1) (w.alloc F0) wr) (fun _ _ q _ => m - (intOf q).toNat)
  case atStart => exact ⟨0, Nat.zero_le _, rfl, by simp [Mth.off], World.ownsRow_nil _ _ _ _, Below.refl _ _⟩
  case round =>
    obtain ⟨k, hk, rfl, rfl, hown, hbk⟩ := hrel
    by_cases hlt : k < i
    · obtain ⟨p, o, rfl, hpl, hcell⟩ := hw.some (by omega)
      have hcx : wr.cell? ⟨p, o + k, none⟩ = some (.int .i64 (ws.getD k 0)) := (hbk.cell (p := ⟨p, o + k, none⟩) (Nat.lt_succ_of_lt hpl)).trans (((bl_alloc (Below.refl w.heap.size w)).cell (p := ⟨p, o + k, none⟩) hpl).trans (hcell k (by omega)))
      clear hcell
      have hz' : Has .u8 wr a len zs := hz.alloc.below hbk (by simp)
      have hg := HG.out k hlt
      have hcd := code_ok hg
      have hoff : Hid (Mth.off ws (k + 1) = Mth.off ws k + (ws.getD k 0).toNat) := rfl
      have hpt : Hid (Mth.parts zs t ws (k + 1) = Mth.parts zs t ws k ++ [(Mth.rd zs (t + (Mth.off ws k : Int)).toNat (ws.getD k 0).toNat : Int)]) := Mth.parts_succ zs t ws k
      simp only [List.getD_eq_getElem?_getD] at hg hcx hoff hcd hpt
      generalize ws[k]?.getD 0 = x at *
      have HC : Hid (codeOf len (t + (Mth.off ws k : Int)) x = 0) := hg
      clear hg
      go_wp2_with fail
      refine (get_int _ _ _ _ _ _ _ hl hz' HC.out).mono ?_
      rintro e w1 ⟨rfl, hb1⟩
      have hown1 := owns_below hown hb1
      have hb1' := hbk.trans (hb1.mono (by have := hbk.size; simpa using this))
      clear hown hbk hcx hz'
      generalize Mth.rd zs (t + (Mth.off ws k : Int)).toNat x.toNat = y at *
      generalize Mth.parts zs t ws k = ps at *
      go_wp2_with (at_builtin; refine wpList_append_own _ rfl _ _ 53 rfl (w.heap.size + 1) 22 i0 (.int .u64 0) 1 8 Tryz.underlying53 hi hz0 hz1 hz2 rfl (by decide) _ k (UU ps) rfl ?c0 ⟨w1.heap.size + 1, 0, none⟩ 1 1 [.int .u64 y] rfl rfl ?c1 ?c2 ?c3 ?c4 ?c5 ?_)
      case c0 => exact (hown1.alloc _).alloc _
      case c1 => exact one_cell64 _ _
      case c2 => intro u hu; simp at hu; subst hu; rfl
      case c3 => unfold maxLen; omega
      case c4 => omega
      case c5 => have := hb1'.size; simp at this; simp; omega
      intro v' w2 hown2 hgr2 hne2
      have hb2 := ((hb1'.alloc (by have := hb1'.size; simpa using this) F0).alloc (by have := hb1'.size; simp at this; simp; omega) (.cells #[.int .u64 y] 22)).grown hgr2 (by have := hb1'.size; simp at this; simp; omega) (fun q hq => (hown1.lt q hq).1)
      have hown3 : w2.ownsRow (w.heap.size + 1) 22 1 v' (k + 1) (UU (ps ++ [(y : Int)])) := by
        simp only [UU, List.map_append, List.map_cons, List.map_nil]; exact hown2
      clear hown1 hown2 hgr2 hb1' hb1 hne2
      go_wp2
      go_roundw
      case rel => exact ⟨k + 1, by omega, by go_num, vint (by rw [hoff.out]; omega), by rw [hpt.out]; exact hown3, hb2⟩
      case measure => simp [intOf]; omega
    · have ek : k = i := by omega
      subst ek
      obtain ⟨p, o, rfl, hpl, hcell⟩ := hw.some (by omega)
      have hcx : wr.cell? ⟨p, o + k, none⟩ = some (.int .i64 (ws.getD k 0)) := (hbk.cell (p := ⟨p, o + k, none⟩) (Nat.lt_succ_of_lt hpl)).trans (((bl_alloc (Below.refl w.heap.size w)).cell (p := ⟨p, o + k, none⟩) hpl).trans (hcell k (by omega)))
      clear hcell
      have hz' : Has .u8 wr a len zs := hz.alloc.below hbk (by simp)
      have hkm : (k : Int) < (m : Int) := by omega
      simp only [List.getD_eq_getElem?_getD] at hcx HCC
      generalize ws[k]?.getD 0 = x at *
      have hCn : (CC != 0) = true := by simpa using HB.out
      go_wp2_with fail
      refine (get_no _ _ _ _ _ _ hl (by rw [HCC.out]; exact HB.out)).mono ?_
      rintro e w1 ⟨rfl, hb1⟩
      rw [HCC.out]
      have hb1' := hbk.trans (hb1.mono (by have := hbk.size; simpa using this))
      obtain ⟨c0, c1, f0, f1, hsz⟩ := fault_cells hb1'
      clear hown hbk hcx hz' hb1
      go_wp2
      go_region
      go_wp2
      exact bodyPost_ret (v := .tuple #[.slice none 0 0, .agg #[.int .i64 CC, .int .i64 k]]) (by simp [results, Tryz.results112, go_sem, c0, c1, hsz]) rfl ⟨rfl, (bl_alloc (end_fault hb1' _ _)).drew⟩
end Go.Proofs.YtajelgjbgehahaaGreat

namespace Go.Proofs.YtajelgjbgehahaaGreat
open Go.RowKit

end Go.Proofs.YtajelgjbgehahaaGreat

namespace Go.Proofs.YtajelgjbgehahaaGreat
open Go.RowKit

def str (zs : List Int) : ByteArray := ⟨(zs.map fun n => UInt8.ofNat n.toNat).toArray⟩

theorem conv_bytes {w : World} {a : Option Addr} {len : Nat} {zs : List Int} (cap : Nat) (h : Has .u8 w a len zs) : (convert 40 9 (.slice a len cap)).run Tryz.prog w = .ok (.string (str zs)) w := by
  have hb := h.bytes
  rcases h.2.2 with h0 | ⟨b, off, rfl, hlt, hc⟩
  · subst h0
    have hl : len = 0 := by have := h.1; simpa using this.symm
    subst hl
    rw [run_convert_bytes_string w 40 9 5 a 0 cap Tryz.underlying40 Tryz.underlying5 Tryz.underlying9]
    cases a
    · rfl
    · rfl
  · have hl := h.1
    have e : len = (zs.map fun n => UInt8.ofNat n.toNat).length := by simp [hl]
    conv => lhs; rw [e]
    rw [run_convert_bytes_back w 40 9 5 ⟨b, off, none⟩ cap (zs.map fun n => UInt8.ofNat n.toNat) Tryz.underlying40 Tryz.underlying5 Tryz.underlying9]
    · rfl
    · intro j hj
      simp only [List.length_map] at hj
      rw [Addr.add_lit, hc j (by omega)]
      have := hb j
      simp only [List.getD_eq_getElem?_getD, List.getElem?_eq_getElem hj, Option.getD_some] at this ⊢
      simp only [List.getElem_map]
      congr 2
      simp only [UInt8.toNat_ofNat']
      omega

set_option maxHeartbeats 400000 in
set_option maxRecDepth 20000 in
theorem same_bytes {w : World} {a b : Option Addr} {len : Nat} {zs : List Int} (c d : Nat) (ha : Has .u8 w a len zs) (hb : Has .u8 w b len zs) :
    Calls Tryz.prog 20 #[.slice a len c, .slice b len d] w fun e w' => e = .returned (.bool true) ∧ w' = w := by
  have k1 := conv_bytes c ha
  have k2 := conv_bytes d hb
  clear ha hb
  go_enter Tryz.func20, Tryz.ntmps20
  go_wp2
  go_ret
  exact ⟨rfl, rfl⟩
end Go.Proofs.YtajelgjbgehahaaGreat

namespace Go.Proofs.YtajelgjbgehahaaGreat
open Go.RowKit

theorem fault2 {w w' : World} {x y : Value} (hb : Below (w.alloc (.cells #[x, y] 28)).heap.size (w.alloc (.cells #[x, y] 28)) w') : w'.cell? ⟨w.heap.size, 0, none⟩ = some x ∧ w'.cell? ⟨w.heap.size, 1, none⟩ = some y ∧ w.heap.size < w'.heap.size := by
  refine ⟨(hb.cell (p := ⟨w.heap.size, 0, none⟩) (by simp)).trans (by simp), (hb.cell (p := ⟨w.heap.size, 1, none⟩) (by simp)).trans (by simp), ?_⟩
  have := hb.size
  simp at this
  omega

/-- two cells that lie in a world lie in a later one -/
theorem later2 {w w' : World} {o : Obj} {B : Nat} {x y : Value} (h : w.cell? ⟨B, 0, none⟩ = some x ∧ w.cell? ⟨B, 1, none⟩ = some y ∧ B < w.heap.size) (hb : Below (w.alloc o).heap.size (w.alloc o) w') :
    w'.cell? ⟨B, 0, none⟩ = some x ∧ w'.cell? ⟨B, 1, none⟩ = some y ∧ B < w'.heap.size := by
  have hs : w.heap.size < w'.heap.size := by have := hb.size; simp at this; omega
  have h0 : w'.cell? ⟨B, 0, none⟩ = w.cell? ⟨B, 0, none⟩ := (hb.cell (p := ⟨B, 0, none⟩) (by simp; omega)).trans ((bl_alloc (Below.refl w.heap.size w)).cell (p := ⟨B, 0, none⟩) h.2.2)
  have h1 : w'.cell? ⟨B, 1, none⟩ = w.cell? ⟨B, 1, none⟩ := (hb.cell (p := ⟨B, 1, none⟩) (by simp; omega)).trans ((bl_alloc (Below.refl w.heap.size w)).cell (p := ⟨B, 1, none⟩) h.2.2)
  exact ⟨h0.trans h.1, h1.trans h.2.1, by omega⟩

end Go.Proofs.YtajelgjbgehahaaGreat
