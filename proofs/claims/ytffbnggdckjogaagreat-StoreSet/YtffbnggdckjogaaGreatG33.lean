/- Texts of one chain, joined: TGather, TAll. -/
import Derived.Test.YtffbnggdckjogaaGreatG11
import Derived.Test.YtffbnggdckjogaaGreatG13
import Derived.Deep.CutRange
namespace Go.Proofs.YtffbnggdckjogaaGreat
open Go.RowKit Mth
def entOf (C : Told2) (W : Nat) (x : Nat × Nat) : Ent := ⟨[((x.2 * 2 ^ (W - x.1) : Nat) : Int)], x.1, ((C x.1 x.2).getD (0, [])).1, ((C x.1 x.2).getD (0, [])).2⟩
abbrev O1 (x : Int) : Obj := .cells #[.int .u64 x] 63
theorem one_num (w : World) (x : Int) (h : 0 ≤ x ∧ x < 18446744073709551616) : Has .u64 (w.alloc (O1 x)) (some ⟨w.heap.size, 0, none⟩) 1 [x] := by
  refine ⟨rfl, by intro n hn; simp at hn; subst hn; exact wf_u64 _ h, .inr ⟨_, _, rfl, by simp, ?_⟩⟩
  intro i hi
  match i, hi with
  | 0, _ => simp
theorem key_child (W n v b : Nat) (hn : n < W) : v * 2 ^ (W - n) + b * 2 ^ (W - 1 - n) = (2 * v + b) * 2 ^ (W - (n + 1)) := by
  rw [show W - n = W - 1 - n + 1 from by omega, show W - (n + 1) = W - 1 - n from by omega, Nat.pow_succ, Nat.add_mul, Nat.mul_comm 2 v, Nat.mul_assoc v 2, Nat.mul_comm 2]
theorem key_lt (W n v : Nat) (hn : n ≤ W) (hv : v < 2 ^ n) : v * 2 ^ (W - n) < 2 ^ W := by
  have : 2 ^ W = 2 ^ n * 2 ^ (W - n) := by rw [← Nat.pow_add]; congr 1; omega
  rw [this]
  exact Nat.mul_lt_mul_of_pos_right hv (Nat.two_pow_pos _)
def part (C : Told2) (d n v b : Nat) : List (Nat × Nat) := (if (C n v).isSome = true then [(n, v)] else []) ++ ((if 0 < b then pre C d (n + 1) (2 * v) else []) ++ (if 1 < b then pre C d (n + 1) (2 * v + 1) else []))
theorem part_all (C : Told2) (d n v : Nat) : part C d n v 2 = pre C (d + 1) n v := by simp [part, pre]
theorem part_next (C : Told2) (d n v b : Nat) (hb : b < 2) : part C d n v (b + 1) = part C d n v b ++ pre C d (n + 1) (2 * v + b) := by
  rcases child_cases b hb with rfl | rfl
  · simp [part]
  · simp [part]
theorem part_le (C : Told2) (d n v b : Nat) (hb : b ≤ 2) : (part C d n v b).length ≤ (pre C (d + 1) n v).length := by
  rw [← part_all]
  have : b = 0 ∨ b = 1 ∨ b = 2 := by omega
  rcases this with rfl | rfl | rfl
  · simp [part]
  · simp [part]
  · exact Nat.le_refl _
structure GAt (w0 wr : World) (cap : Nat) (E : List Ent) (x : Value) : Prop where
  x : x = .slice (some ⟨w0.heap.size, 0, none⟩) E.length cap
  out : Out wr w0.heap.size w0.heap.size cap E
  bel : Below w0.heap.size w0 wr
  big : w0.heap.size < wr.heap.size
def TGDone (w0 w' : World) (cap : Nat) (E : List Ent) (e : Ending) : Prop := ∃ x, e = .returned x ∧ GAt w0 w' cap E x
theorem arr_first (P0 P1 : Value) (w : World) : (Instr.index 98 (.agg #[P0, P1]) (.int .i64 0)).run Tryz.prog w = .ok P0 w := by
  simp [Instr.index, run_underlying Tryz.underlying98, asIntOf, go_sem]
theorem arr_second (P0 P1 : Value) (w : World) : (Instr.index 98 (.agg #[P0, P1]) (.int .i64 1)).run Tryz.prog w = .ok P1 w := by
  simp [Instr.index, run_underlying Tryz.underlying98, asIntOf, go_sem]
theorem or_left (W n v : Nat) (hn : n < W) (hW : W ≤ 64) (hv : v < 2 ^ n) : bits BinOp.or IntKind.u64 ((v : Int) * 2 ^ (W - n)) 0 = ((v * 2 ^ (W - n) + 0 * 2 ^ (W - 1 - n) : Nat) : Int) := by
  have h1 := key_lt W n v (by omega) hv
  have h2 : 2 ^ W ≤ 2 ^ 64 := Nat.pow_le_pow_right (by decide) hW
  have e : ((v : Int) * 2 ^ (W - n)) = ((v * 2 ^ (W - n) : Nat) : Int) := by simp
  rw [e, show (0 : Int) = ((0 : Nat) : Int) from rfl, u64_or_nat _ _ (by omega) (by omega), Nat.or_zero, Nat.zero_mul, Nat.add_zero]
theorem or_right (W n v : Nat) (hn : n < W) (hW : W ≤ 64) (hv : v < 2 ^ n) : bits BinOp.or IntKind.u64 ((v : Int) * 2 ^ (W - n)) (IntKind.u64.wrap (2 ^ (W - 1 - n))) = ((v * 2 ^ (W - n) + 1 * 2 ^ (W - 1 - n) : Nat) : Int) := by
  have h1 := key_lt W n v (by omega) hv
  have h2 : 2 ^ W ≤ 2 ^ 64 := Nat.pow_le_pow_right (by decide) hW
  have h3 : 2 ^ (W - 1 - n) ≤ 2 ^ 63 := Nat.pow_le_pow_right (by decide) (by omega)
  have e : ((v : Int) * 2 ^ (W - n)) = ((v * 2 ^ (W - n) : Nat) : Int) := by simp
  have e2 : IntKind.u64.wrap ((2 : Int) ^ (W - 1 - n)) = ((2 ^ (W - 1 - n) : Nat) : Int) := by
    have : ((2 : Int) ^ (W - 1 - n)) = ((2 ^ (W - 1 - n) : Nat) : Int) := by simp
    rw [this, IntKind.wrap_u64]
    generalize 2 ^ (W - 1 - n) = z at h3 ⊢
    omega
  rw [e, e2, u64_or_nat _ _ (by omega) (by omega)]
  have h4 := Nat.two_pow_add_eq_or_of_lt (i := W - n) (b := 2 ^ (W - 1 - n)) (Nat.pow_lt_pow_right (by decide) (by omega)) v
  rw [Nat.mul_comm (2 ^ (W - n)) v] at h4
  rw [← h4, Nat.one_mul]
theorem six_cells2 (w : World) (o : Obj) (d : ED) (t : TypeId) : ∀ (j : Nat) (u : Value), d.cells[j]? = some u → ((w.alloc o).alloc (.cells #[.slice d.ka d.kn d.kc, .slice none 0 0, .int .i64 d.ln, .int .i64 0, .int .i64 d.act, .slice d.a d.n d.c] t)).drew.cell? ((⟨w.heap.size + 1, 0, none⟩ : Addr).add j) = some u := by
  intro j u h
  have := six_cells (w.alloc o) d t j u h
  rw [show (w.alloc o).heap.size = w.heap.size + 1 from by simp] at this
  exact this
theorem gather_own {w0 w w3 w6 : World} {cap n v W : Nat} {C : Told2} {E : List Ent} {h : HitM} {ds : List ED} {a3 : Option Addr} {n3 c3 d : Nat} {y : Value} (G : GAt w0 w cap E y) (hb3 : Below w.heap.size w w3) (hC : C n v = some h)
    (l2 : a3 = none → n3 = 0 ∧ c3 = 0) (l3 : n3 ≤ 1000) (l4 : Has .u64 w3 a3 n3 h.2) (l5 : From w.heap.size a3 n3) (hl : ds.length = E.length) (hg : ∀ (i : Nat) (d : ED) (e : Ent), ds[i]? = some d → E[i]? = some e → d.good w3 e ∧ d.new (w0.heap.size + 1)) (hk : v * 2 ^ (W - n) < 18446744073709551616)
    (o : Obj) (ho : w6.ownsRow w0.heap.size 38 6 (.slice (some ⟨w0.heap.size, 0, none⟩) (E.length + 1) cap) (E.length + 1) (ds.flatMap ED.cells ++ ED.cells ⟨some ⟨w3.heap.size, 0, none⟩, 1, 1, n, h.1, a3, n3, c3⟩)) (hgr : ((w3.alloc (O1 ((v : Int) * 2 ^ (W - n)))).alloc o).drew.grownBy w6 (some w0.heap.size)) :
    GAt w0 w6 cap (E ++ (part C d n v 0).map (entOf C W)) (.slice (some ⟨w0.heap.size, 0, none⟩) (E.length + 1) cap) := by
  have e : part C d n v 0 = [(n, v)] := by simp [part, hC]
  rw [e]
  have e2 : [(n, v)].map (entOf C W) = [⟨[((v * 2 ^ (W - n) : Nat) : Int)], n, h.1, h.2⟩] := by simp [entOf, hC]
  rw [e2]
  have hB : Below w3.heap.size w3 ((w3.alloc (O1 ((v : Int) * 2 ^ (W - n)))).alloc o).drew := (bl_alloc (bl_alloc (Below.refl _ _))).drew
  have b5 : Below w0.heap.size w0 ((w3.alloc (O1 ((v : Int) * 2 ^ (W - n)))).alloc o).drew := bl_step (bl_step G.bel hb3) hB
  have hbig := G.big
  have hs3 := hb3.size
  have hk1 := one_num w3 ((v : Int) * 2 ^ (W - n)) (by
    have : ((v : Int) * 2 ^ (W - n)) = ((v * 2 ^ (W - n) : Nat) : Int) := by simp
    omega)
  have he : ((v : Int) * 2 ^ (W - n)) = ((v * 2 ^ (W - n) : Nat) : Int) := by simp
  refine ⟨by simp, Out.push (d := ⟨some ⟨w3.heap.size, 0, none⟩, 1, 1, n, h.1, a3, n3, c3⟩) hl hg hB ho hgr ⟨by simp, by simp, ?_, rfl, rfl, l2, l3, l4.step hB⟩ ⟨fun _ => ⟨w3.heap.size, 0, rfl, by omega, rfl⟩, l5.mono hbig⟩, b5.grown hgr b5.size (fun k hk => by cases hk; exact Nat.le_refl _), ?_⟩
  · rw [← he]
    exact hk1.alloc.drew
  · have := hgr.size
    simp at this
    omega
def GatherOk (d : Nat) : Prop := ∀ (w0 w : World) (B : Nat → Prop) (p W n v cap : Nat) (N : Ways) (C : Told2) (wd most many : Int) (a : Loc) (E : List Ent) (x : Value), d = W + 1 - n → Trie w0 B p W N C → Head w0 p wd most many → (0 < W → wd = W) → W ≤ 64 → N n v = some a → GAt w0 w cap E x → E.length + (pre C d n v).length ≤ cap → cap ≤ 100000 →
    Calls Tryz.prog 105 #[.pointer (some ⟨p, 0, none⟩), x, ptr (some a), .int .u64 ((v * 2 ^ (W - n) : Nat) : Int), .int .i64 n] w fun e w' => TGDone w0 w' cap (E ++ (pre C d n v).map (entOf C W)) e
set_option maxHeartbeats 4000000 in
set_option maxRecDepth 20000 in
theorem gather_any (d : Nat) : GatherOk d := by
  induction d with
  | zero =>
    intro w0 w B p W n v cap N C wd most many a E x hd0 t hd hwd hW ha
    have := (t.rng _ _ _ ha).1
    omega
  | succ d ih =>
    intro w0 w B p W n v cap N C wd most many a E x hd0 t hd hwd hW ha hG hcap hc5
    obtain ⟨b, o⟩ := a
    have HD0 := hid hd0
    have hnW := (t.rng _ _ _ ha).1
    have hvn := (t.rng _ _ _ ha).2
    have HT := hid t
    have HD := hid hd
    have HWD := hid hwd
    have HIH := ih
    have hn0 := (t.step hG.bel).node _ _ _ ha
    have m0 := hn0.c0
    have m1 := hn0.c1
    obtain ⟨sv, m2, hs⟩ := hn0.c2
    have hx := hG.x
    subst hx
    generalize hP0 : ptr (N (n + 1) (2 * v)) = P0 at *
    generalize hP1 : ptr (N (n + 1) (2 * v + 1)) = P1 at *
    have HPP : Hid (∀ c, c < 2 → (if c = 0 then P0 else P1) = ptr (N (n + 1) (2 * v + c))) := by
      intro c hc
      rcases child_cases c hc with rfl | rfl
      · rw [if_pos rfl, ← hP0]; rfl
      · rw [if_neg (by omega), ← hP1]
    clear hP0 hP1 hn0 ih t hd hd0 hwd
    cases hC : C n v with
    | none =>
      have hR : GAt w0 w cap (E ++ (part C d n v 0).map (entOf C W)) (.slice (some ⟨w0.heap.size, 0, none⟩) E.length cap) := by
        have e : part C d n v 0 = [] := by simp [part, hC]
        rw [e]; simpa using hG
      have R0 := hid hR
      clear hR
      rw [hC] at hs
      have e : sv = .pointer none := hs
      subst e
      clear hC hs hG ha
      simp only [ptr]
      go_enter Tryz.func105, Tryz.ntmps105
      go_wp2
      go_loopw [1, 45] (fun y q wr => ∃ c : Nat, c ≤ 2 ∧ q = .int .i64 c ∧ GAt w0 wr cap (E ++ (part C d n v c).map (entOf C W)) y) (fun _ q _ => 2 - (intOf q).toNat)
      case atStart => exact ⟨0, by omega, rfl, R0.out⟩
      case round =>
        obtain ⟨c, hc, rfl, hGc⟩ := hrel
        clear R0
        by_cases hlt : c < 2
        · have hnext := part_next C d n v c hlt
          have hle := part_le C d n v (c + 1) (by omega)
          cases hN : N (n + 1) (2 * v + c) with
          | none =>
            have hp : pre C d (n + 1) (2 * v + c) = [] := pre_none _ _ _ _ fun m u h1 h2 => HT.out.cn _ _ (HT.out.none_up hN m u h1 h2)
            rw [hp, List.append_nil] at hnext
            have HG2 : Hid (GAt w0 wr cap (E ++ (part C d n v (c + 1)).map (entOf C W)) u1) := by rw [hnext]; exact hGc
            clear hGc hnext hle hp
            have hP := HPP.out c hlt
            rw [hN] at hP
            simp only [ptr] at hP
            clear hN
            rcases child_cases c hlt with rfl | rfl
            · simp only [if_pos] at hP
              subst hP
              have hix := fun P => arr_first (.pointer P) P1 wr
              go_wp2
              go_roundw
              case rel => exact ⟨1, by omega, rfl, HG2.out⟩
              case measure => simp [intOf]
            · simp only [Nat.one_ne_zero, if_false] at hP
              subst hP
              have hix := fun P => arr_second P0 (.pointer P) wr
              go_wp2
              go_roundw
              case rel => exact ⟨2, by omega, rfl, HG2.out⟩
              case measure => simp [intOf]
          | some a' =>
            have hn1 := (HT.out.rng _ _ _ hN).1
            have c0 := (HD.out.step hGc.bel).c0
            rw [HWD.out (by omega)] at c0
            obtain ⟨b', o'⟩ := a'
            have hcap' : (E ++ (part C d n v c).map (entOf C W)).length + (pre C d (n + 1) (2 * v + c)).length ≤ cap := by
              rw [hnext] at hle
              simp only [List.length_append, List.length_map] at hle ⊢
              omega
            have hI := HIH _ _ _ _ _ _ _ _ _ _ _ _ _ _ _ _ (by have := HD0.out; omega) HT.out HD.out HWD.out hW hN hGc hcap' hc5
            rw [← key_child W n v c (by omega), show (((n + 1 : Nat)) : Int) = (n : Int) + 1 from by omega] at hI
            rw [List.append_assoc, ← List.map_append, ← hnext] at hI
            simp only [ptr] at hI
            have HI := hid hI
            have hP := HPP.out c hlt
            rw [hN] at hP
            simp only [ptr] at hP
            clear hGc hnext hle hcap' hI hN
            rcases child_cases c hlt with rfl | rfl
            · simp only [if_pos] at hP
              subst hP
              have hix := fun P => arr_first (.pointer P) P1 wr
              rw [← or_left W n v (by omega) hW hvn] at HI
              go_wp2_with fail
              refine HI.out.mono ?_
              rintro e w1 ⟨y, rfl, hG1⟩
              have HG1 := hid hG1
              clear hG1 HI hix
              go_wp2
              go_roundw
              case rel => exact ⟨1, by omega, rfl, HG1.out⟩
              case measure => simp [intOf]
            · simp only [Nat.one_ne_zero, if_false] at hP
              subst hP
              have hix := fun P => arr_second P0 (.pointer P) wr
              rw [← or_right W n v (by omega) hW hvn] at HI
              go_wp2_with fail
              refine HI.out.mono ?_
              rintro e w1 ⟨y, rfl, hG1⟩
              have HG1 := hid hG1
              clear hG1 HI hix
              go_wp2
              go_roundw
              case rel => exact ⟨2, by omega, rfl, HG1.out⟩
              case measure => simp [intOf]
        · have ec : c = 2 := by omega
          subst ec
          rw [part_all] at hGc
          go_wp2
          go_ret
          exact ⟨_, rfl, hGc⟩
    | some h =>
      rw [hC] at hs
      obtain ⟨q, e, hl⟩ := hs
      subst e
      obtain ⟨a1, n1, c1, k0, k1, k2, k3, k4, _⟩ := hl
      have HS : Hid (Says w (.agg #[.int .i64 h.1, .slice a1 n1 c1]) h) := ⟨a1, n1, c1, rfl, k2, k3, k4⟩
      have HG := hid hG
      have HCN := hid hC
      have HA := hid ha
      have hroom : E.length + 1 ≤ cap := by
        have : 1 ≤ (pre C (d + 1) n v).length := by rw [pre, hC]; simp
        omega
      clear hC hG ha k2 k3 k4
      simp only [ptr]
      go_enter Tryz.func105, Tryz.ntmps105
      go_wp2_with fail
      refine (copied_new HS.out).mono ?_
      rintro e w3 ⟨q3, a3, n3, c3, rfl, hq3, l0, l1, l2, l3, l4, l5, hb3⟩
      have hq3lt := World.block_lt_of_cell? w3 _ l0
      have HB3 := hid hb3
      have HL := hid (And.intro l2 (And.intro l3 (And.intro l4 l5)))
      clear l2 l3 l4 l5 hb3 HS k0 k1
      obtain ⟨ds, hl, ho, hg⟩ := (HG.out.out.step HB3.out)
      have HO := hid ho
      have HGG := hid hg
      clear ho hg
      have hk64 : v * 2 ^ (W - n) < 18446744073709551616 := by
        have h1 := key_lt W n v hnW hvn
        have h2 : 2 ^ W ≤ 2 ^ 64 := Nat.pow_le_pow_right (by decide) hW
        omega
      go_upto_region 3 with fail
      go_cut [1] from 26 to 40 (fun v1 wc => GAt w0 wc cap (E ++ (part C d n v 0).map (entOf C W)) v1)
      case first =>
        go_region_law (refine stepE rfl _ _ rfl w0.heap.size w0.heap.size E.length cap (ds.flatMap ED.cells) (ED.cells ⟨some ⟨w3.heap.size, 0, none⟩, 1, 1, n, h.1, a3, n3, c3⟩) ⟨w3.heap.size + 1, 0, none⟩ 1 (by simp [Act.eval]) (by simp [Act.eval]) ((HO.out.drew.alloc _).alloc _) rfl (six_cells2 w3 (O1 ((v : Int) * 2 ^ (W - n))) ⟨some ⟨w3.heap.size, 0, none⟩, 1, 1, n, h.1, a3, n3, c3⟩ 38) (six_one _) (by omega) ?_; intro w6 ho6 hgr6)
        all_goals
          have HEND := hid (gather_own (d := d) HG.out HB3.out HCN.out HL.out.1 HL.out.2.1 HL.out.2.2.1 HL.out.2.2.2 hl HGG.out hk64 _ ho6 hgr6)
          clear ho6 hgr6
          go_wp2_with fail
          go_meet
          exact HEND.out
      case rest =>
        have hn3 := (HT.out.step hcut.bel).node _ _ _ HA.out
        have m0' := hn3.c0
        have m1' := hn3.c1
        have p0 : P0 = ptr (N (n + 1) (2 * v)) := (if_pos rfl).symm.trans (HPP.out 0 (by omega))
        have p1 : P1 = ptr (N (n + 1) (2 * v + 1)) := (if_neg (by omega)).symm.trans (HPP.out 1 (by omega))
        rw [← p0] at m0'
        rw [← p1] at m1'
        have R0 := hid hcut
        clear hn3 p0 p1 hcut m0 m1 m2 l0 l1 HO HGG HL HG HCN HB3
        go_wp2
        go_loopw [1, 45] (fun y q wr => ∃ c : Nat, c ≤ 2 ∧ q = .int .i64 c ∧ GAt w0 wr cap (E ++ (part C d n v c).map (entOf C W)) y) (fun _ q _ => 2 - (intOf q).toNat)
        case atStart => exact ⟨0, by omega, rfl, R0.out⟩
        case round =>
          obtain ⟨c, hc, rfl, hGc⟩ := hrel
          clear R0
          by_cases hlt : c < 2
          · have hnext := part_next C d n v c hlt
            have hle := part_le C d n v (c + 1) (by omega)
            cases hN : N (n + 1) (2 * v + c) with
            | none =>
              have hp : pre C d (n + 1) (2 * v + c) = [] := pre_none _ _ _ _ fun m u h1 h2 => HT.out.cn _ _ (HT.out.none_up hN m u h1 h2)
              rw [hp, List.append_nil] at hnext
              have HG2 : Hid (GAt w0 wr cap (E ++ (part C d n v (c + 1)).map (entOf C W)) u1) := by rw [hnext]; exact hGc
              clear hGc hnext hle hp
              have hP := HPP.out c hlt
              rw [hN] at hP
              simp only [ptr] at hP
              clear hN
              rcases child_cases c hlt with rfl | rfl
              · simp only [if_pos] at hP
                subst hP
                have hix := fun P => arr_first (.pointer P) P1 wr
                go_wp2
                go_roundw
                case rel => exact ⟨1, by omega, rfl, HG2.out⟩
                case measure => simp [intOf]
              · simp only [Nat.one_ne_zero, if_false] at hP
                subst hP
                have hix := fun P => arr_second P0 (.pointer P) wr
                go_wp2
                go_roundw
                case rel => exact ⟨2, by omega, rfl, HG2.out⟩
                case measure => simp [intOf]
            | some a' =>
              have hn1 := (HT.out.rng _ _ _ hN).1
              have c0 := (HD.out.step hGc.bel).c0
              rw [HWD.out (by omega)] at c0
              obtain ⟨b', o'⟩ := a'
              have hcap' : (E ++ (part C d n v c).map (entOf C W)).length + (pre C d (n + 1) (2 * v + c)).length ≤ cap := by
                rw [hnext] at hle
                simp only [List.length_append, List.length_map] at hle ⊢
                omega
              have hI := HIH _ _ _ _ _ _ _ _ _ _ _ _ _ _ _ _ (by have := HD0.out; omega) HT.out HD.out HWD.out hW hN hGc hcap' hc5
              rw [← key_child W n v c (by omega), show (((n + 1 : Nat)) : Int) = (n : Int) + 1 from by omega] at hI
              rw [List.append_assoc, ← List.map_append, ← hnext] at hI
              simp only [ptr] at hI
              have HI := hid hI
              have hP := HPP.out c hlt
              rw [hN] at hP
              simp only [ptr] at hP
              clear hGc hnext hle hcap' hI hN
              rcases child_cases c hlt with rfl | rfl
              · simp only [if_pos] at hP
                subst hP
                have hix := fun P => arr_first (.pointer P) P1 wr
                rw [← or_left W n v (by omega) hW hvn] at HI
                go_wp2_with fail
                refine HI.out.mono ?_
                rintro e w1 ⟨y, rfl, hG1⟩
                have HG1 := hid hG1
                clear hG1 HI hix
                go_wp2
                go_roundw
                case rel => exact ⟨1, by omega, rfl, HG1.out⟩
                case measure => simp [intOf]
              · simp only [Nat.one_ne_zero, if_false] at hP
                subst hP
                have hix := fun P => arr_second P0 (.pointer P) wr
                rw [← or_right W n v (by omega) hW hvn] at HI
                go_wp2_with fail
                refine HI.out.mono ?_
                rintro e w1 ⟨y, rfl, hG1⟩
                have HG1 := hid hG1
                clear hG1 HI hix
                go_wp2
                go_roundw
                case rel => exact ⟨2, by omega, rfl, HG1.out⟩
                case measure => simp [intOf]
          · have ec : c = 2 := by omega
            subst ec
            rw [part_all] at hGc
            go_wp2
            go_ret
            exact ⟨_, rfl, hGc⟩
end Go.Proofs.YtffbnggdckjogaaGreat

namespace Go.Proofs.YtffbnggdckjogaaGreat
open Go.RowKit Mth
def allOf (C : Told2) (wd : Int) : List Ent := (pre C (wid wd + 1) 0 0).map (entOf C (wid wd))
theorem Tab.rng {w : World} {B : Nat → Prop} {p : Nat} {wd most : Int} {C : Told2} {es : List (Nat × Nat)} (t : Tab w B p wd most C es) (n v : Nat) (h : (C n v).isSome = true) : n ≤ wid wd ∧ v < 2 ^ n := by
  obtain ⟨N, tr⟩ := t.tr
  cases hN : N n v with
  | none => rw [tr.cn _ _ hN] at h; cases h
  | some a => exact tr.rng _ _ _ hN
theorem Tab.perm {w : World} {B : Nat → Prop} {p : Nat} {wd most : Int} {C : Told2} {es : List (Nat × Nat)} (t : Tab w B p wd most C es) : (pre C (wid wd + 1) 0 0).Perm es :=
  perm_of_mem (pre_nodup _ _ _ _) t.nd fun ⟨m, u⟩ => (pre_all C (wid wd) t.rng m u).trans (t.mem m u).symm
theorem allOf_length {w : World} {B : Nat → Prop} {p : Nat} {wd most : Int} {C : Told2} {es : List (Nat × Nat)} (t : Tab w B p wd most C es) : (allOf C wd).length = es.length := by
  unfold allOf
  rw [List.length_map]
  exact t.perm.length_eq
def AllDone (w w' : World) (C : Told2) (wd : Int) (n : Nat) (e : Ending) : Prop := ∃ a c, e = .returned (.slice a n c) ∧ Ents w' a n (allOf C wd) ∧ Below w.heap.size w w'
set_option maxHeartbeats 2000000 in
set_option maxRecDepth 20000 in
theorem all_any {w : World} {B : Nat → Prop} {p : Nat} {wd most : Int} {C : Told2} {es : List (Nat × Nat)} (t : Tab w B p wd most C es) (hl : es.length ≤ 100000) :
    Calls Tryz.prog 96 #[.pointer (some ⟨p, 0, none⟩)] w fun e w' => AllDone w w' C wd es.length e := by
  have c2 := t.hd.c2
  obtain ⟨N, tr⟩ := t.tr
  have hlen := t.perm.length_eq
  have HL := hid (allOf_length t)
  obtain ⟨i0, hi, hz0, hz1, hz2⟩ := info_parts Tryz.infoEntry
  obtain ⟨w1, hrun, r1, r2⟩ := run_make_own (P := Tryz.prog) w.drew w.heap.size 42 38 i0 NoEntry 6 Tryz.underlying42 hi hz0 hz1 .i64 .i64 es.length (by rw [hz2]; omega) (by unfold maxLen; omega) (Nat.le_refl _)
  have hb1 : Below w.heap.size w w1 := (Below.refl w.heap.size w).drew.grown r2 (Nat.le_refl _) (by intro k hk; cases hk)
  have hG : GAt w w1 es.length [] (.slice (some ⟨w.heap.size, 0, none⟩) 0 es.length) := ⟨rfl, ⟨[], rfl, r1, by simp⟩, hb1, (r1.lt w.heap.size rfl).2⟩
  have hC := gather_any (wid wd + 1) w w1 B p (wid wd) 0 0 es.length N C wd most es.length (p, 3) [] _ (by omega) tr t.hd (fun h => by
    unfold wid at h ⊢
    split at h
    · rename_i hh; rw [if_pos hh]; omega
    · omega) (wid_le wd) tr.root hG (by simp; omega) hl
  rw [Nat.zero_mul, List.nil_append] at hC
  simp only [ptr] at hC
  have HC := hid hC
  clear t tr hC hG r1 r2 hb1 hlen hi hz0 hz1 hz2
  go_enter Tryz.func96, Tryz.ntmps96
  go_wp2
  go_region_with (go_at_call 105; refine HC.out.mono ?_; rintro e w2 ⟨x, rfl, hG2⟩)
  all_goals
    have hE : AllDone w w2 C wd es.length (.returned x) := by
      obtain ⟨rfl, hO, hB, _⟩ := hG2
      have h := hO.ents
      have e : ((pre C (wid wd + 1) 0 0).map (entOf C (wid wd))).length = es.length := HL.out
      rw [e] at h ⊢
      exact ⟨_, _, rfl, h, hB⟩
    have HE := hid hE
    clear hG2 hE
    go_wp2
    go_ret
    exact HE.out
end Go.Proofs.YtffbnggdckjogaaGreat
