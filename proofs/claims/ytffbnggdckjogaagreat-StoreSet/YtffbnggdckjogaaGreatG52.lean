/- Texts of one chain, joined: SSet0, SSet1. -/
import Derived.Test.YtffbnggdckjogaaGreatG37
import Derived.Test.YtffbnggdckjogaaGreatG42
import Derived.Test.YtffbnggdckjogaaGreatG50
import Derived.Sort.KeysCollected
namespace Go.Proofs.YtffbnggdckjogaaGreat
open Go.RowKit Mth
theorem nmI_at (ks : List Int) (n j r : Nat) (hj : j < n) (hr : r < 8) : (Ex.Mth.nmI ks n).getD (8 * j + r) 0 = Ex.Mth.byteOf (ks.getD j 0) r := by
  induction n with
  | zero => omega
  | succ n ih =>
    have hl := Ex.Mth.nmI_length ks n
    rw [Ex.Mth.nmI, List.getD_eq_getElem?_getD]
    by_cases h : j < n
    · rw [List.getElem?_append_left (by omega), ← List.getD_eq_getElem?_getD]
      exact ih h
    · have e : j = n := by omega
      subst e
      rw [List.getElem?_append_right (by omega), hl, show 8 * j + r - 8 * j = r by omega]
      simp [Ex.Mth.be, List.getElem?_range hr]
theorem nm_at (ks : List Int) (j r : Nat) (hj : j < ks.length) (hr : r < 8) : ((Ex.Mth.nm ks).getD (8 * j + r) 0).toNat = (Ex.Mth.byteOf (ks.getD j 0) r).toNat := by
  have h := nmI_at ks ks.length j r hj hr
  have hb := Ex.Mth.byteOf_is (ks.getD j 0) r
  have hl : 8 * j + r < (Ex.Mth.nmI ks ks.length).length := by rw [Ex.Mth.nmI_length]; omega
  rw [List.getD_eq_getElem?_getD, List.getElem?_eq_getElem hl, Option.getD_some] at h
  rw [Ex.Mth.nm, Ex.Mth.toB, List.getD_eq_getElem?_getD, List.getElem?_map, List.getElem?_eq_getElem hl, h]
  simp only [Option.map_some, Option.getD_some]
  generalize Ex.Mth.byteOf (ks.getD j 0) r = x at hb
  obtain ⟨n, rfl⟩ : ∃ n : Nat, x = n := ⟨x.toNat, by omega⟩
  simp only [Int.toNat_natCast, UInt8.toNat_ofNat']
  omega
theorem acc_nm (ks : List Int) (j r n : Nat) (hj : j < ks.length) (hn : ks.getD j 0 = n) (hb : n < 2 ^ 64) (hr : r ≤ 8) : Ex.Mth.acc (Ex.Mth.nm ks) j r = n / 2 ^ (8 * (8 - r)) := by
  induction r with
  | zero => exact (Nat.div_eq_of_lt hb).symm
  | succ r ih =>
    rw [Ex.Mth.acc, ih (by omega), nm_at ks j r hj (by omega), hn]
    have e : 2 ^ (8 * (8 - r)) = 2 ^ (8 * (7 - r)) * 256 := by rw [show 8 * (8 - r) = 8 * (7 - r) + 8 by omega, Nat.pow_add]
    rw [e, ← Nat.div_div_eq_div_mul, show 8 - (r + 1) = 7 - r by omega]
    have e2 : Ex.Mth.byteOf (n : Int) r = ((n / 2 ^ (8 * (7 - r)) % 256 : Nat) : Int) := by simp [Ex.Mth.byteOf]
    rw [e2, Int.toNat_natCast]
    generalize n / 2 ^ (8 * (7 - r)) = q
    omega
theorem un_nm (ks : List Int) (h : ∀ n ∈ ks, 0 ≤ n ∧ n < 18446744073709551616) : Ex.Mth.un (Ex.Mth.nm ks) = ks := by
  refine List.ext_getElem (by rw [Ex.Mth.un_length, Ex.Mth.nm_length]; omega) fun j h1 h2 => ?_
  have hx := Ex.Mth.un_at (Ex.Mth.nm ks) j (by rw [Ex.Mth.nm_length]; omega)
  rw [List.getD_eq_getElem?_getD, List.getElem?_eq_getElem h1, Option.getD_some] at hx
  have hk : ks.getD j 0 = ks[j] := by rw [List.getD_eq_getElem?_getD, List.getElem?_eq_getElem h2, Option.getD_some]
  have hb := h _ (List.getElem_mem h2)
  obtain ⟨n, hn⟩ : ∃ n : Nat, ks[j] = n := ⟨ks[j].toNat, by omega⟩
  rw [hx, acc_nm ks j 8 n h2 (hk.trans hn) (by omega) (Nat.le_refl _), hn]
  simp
def turnL {α : Type} (zs : List α) (c : Nat) : List α := zs.drop c ++ zs.take c
theorem turnL_perm {α : Type} (zs : List α) (c : Nat) : (turnL zs c).Perm zs := List.perm_append_comm.trans (List.Perm.of_eq (List.take_append_drop c zs))
theorem turnL_at {α : Type} (zs : List α) (c k : Nat) (h : c < zs.length) (hk : k < zs.length) : (turnL zs c)[k]? = zs[(k + c) % zs.length]? := by
  unfold turnL
  by_cases hc : k < zs.length - c
  · rw [List.getElem?_append_left (by simpa using hc), List.getElem?_drop, Nat.mod_eq_of_lt (by omega), Nat.add_comm]
  · rw [List.getElem?_append_right (by simp; omega), List.length_drop, List.getElem?_take, if_pos (by omega)]
    congr 1
    rw [Nat.mod_eq_sub_mod (by omega), Nat.mod_eq_of_lt (by omega)]
    omega
theorem turnL_next {α : Type} {zs : List α} {c k : Nat} {x : α} (h : c < zs.length) (hk : k < zs.length) (hx : zs[(k + c) % zs.length]? = some x) : (turnL zs c).take (k + 1) = (turnL zs c).take k ++ [x] ∧ x ∈ zs ∧ (zs.Nodup → x ∉ (turnL zs c).take k) := by
  have e := turnL_at zs c k h hk
  rw [hx] at e
  have hl := (turnL_perm zs c).length_eq
  have hk' : k < (turnL zs c).length := by omega
  refine ⟨by rw [List.take_add_one, e]; rfl, List.mem_of_getElem? hx, fun nd hm => ?_⟩
  have nd' : (turnL zs c).Nodup := (turnL_perm zs c).nodup_iff.2 nd
  obtain ⟨j, hj, e2⟩ := List.getElem_of_mem hm
  rw [List.getElem_take] at e2
  have hjk : j < k := by simp at hj; omega
  rw [List.getElem?_eq_getElem hk'] at e
  exact (List.pairwise_iff_getElem.1 nd') j k (by omega) hk' hjk (e2.trans (Option.some.inj e).symm)
structure Rt (k : FK) (ws : List Int) (Ms : List (Int × List Int)) (f : FSt) : Prop where
  r1 : k.kind = 1 → ∀ x h, f.Cx x = some h → entryC k.kind ws Ms ⟨Ex.Mth.un x, [], 0, h.1, h.2⟩ 0 = 0
  r2 : k.kind = 2 → ∀ n v h, f.C n v = some h → entryC k.kind ws Ms ⟨[((v * 2 ^ (wid k.wd - n) : Nat) : Int)], [], 0, h.1, h.2⟩ n = 0
  r3 : k.kind = 3 → ∀ e ∈ f.T, entryC k.kind ws Ms e 0 = 0
theorem rt_none (k : FK) (ws : List Int) (Ms : List (Int × List Int)) : Rt k ws Ms FSt.none := ⟨fun _ x h e => (by cases e), fun _ n v h e => (by cases e), fun _ e h => (by cases h)⟩
theorem entC_place {kind : Int} {ws : List Int} {Ms : List (Int × List Int)} {e : TE} {ln : Int} (h : entryC kind ws Ms e ln = 0) : placeC kind ws e ln = 0 := by
  unfold entryC at h
  split at h
  · rename_i h0; exact absurd h h0
  · rename_i h0; simpa using h0
theorem place_bare {kind : Int} {ws : List Int} {e : TE} {ln : Int} (h : placeC kind ws e ln = 0) : (kind ≠ 3 → e.ms = [] ∧ e.pr = 0) ∧ (kind ≠ 2 → ln = 0) := by
  unfold placeC at h
  split at h
  · cases h
  split at h
  · cases h
  rename_i h2
  refine ⟨fun hk => ⟨?_, ?_⟩, fun hk => ?_⟩
  · refine List.length_eq_zero_iff.1 ?_
    rcases Nat.eq_zero_or_pos e.ms.length with h | h
    · exact h
    · exact absurd (.inl ⟨hk, .inl (by omega)⟩) h2
  · rcases Int.decEq e.pr 0 with h | h
    · exact absurd (.inl ⟨hk, .inr h⟩) h2
    · exact h
  · rcases Int.decEq ln 0 with h | h
    · exact absurd (.inr ⟨hk, h⟩) h2
    · exact h
theorem te_bare {e : TE} {ks : List Int} (hm : e.ms = []) (hp : e.pr = 0) (hk : ks = e.ks) : (⟨ks, [], 0, e.ac, e.xs⟩ : TE) = e := by
  subst hk
  cases e
  cases hm
  cases hp
  rfl
theorem key_told {wd : Int} {e : TE} {ln : Int} (hl : e.ks.length = 1) (hn : ∀ n ∈ e.ks, 0 ≤ n ∧ n < 18446744073709551616) (hg : Good wd (key0 e) ln) : [(((place wd (key0 e) ln).2 * 2 ^ (wid wd - (place wd (key0 e) ln).1) : Nat) : Int)] = e.ks ∧ ((place wd (key0 e) ln).1 : Int) = ln := by
  obtain ⟨W, m, e1, e2, h1, h2, h3, h4, h5, h6, h7⟩ := hg.out
  rw [h7, h6]
  obtain ⟨x, hx⟩ : ∃ x, e.ks = [x] := by
    match he : e.ks, hl with
    | [x], _ => exact ⟨x, rfl⟩
  have hxb := hn x (by rw [hx]; simp)
  have hk : (key0 e : Int) = x := by unfold key0; rw [hx]; simp; omega
  refine ⟨?_, e2.symm⟩
  rw [hx]
  congr 1
  rw [← hk]
  congr 1
  exact Nat.div_mul_cancel (Nat.dvd_of_mod_eq_zero h5)
theorem rt_add {k : FK} {f : FSt} {ws : List Int} {Ms : List (Int × List Int)} {e : TE} {ln : Int} (h : Rt k ws Ms f) (h1 : k.kind = 2 → ws.length = 1) (hn : ∀ n ∈ e.ks, 0 ≤ n ∧ n < 18446744073709551616) : Rt k ws Ms (stAdd k f ws Ms e ln).2 := by
  unfold stAdd
  split
  · exact h
  rename_i hc
  have hc : entryC k.kind ws Ms e ln = 0 := by simpa using hc
  have hp := place_bare (entC_place hc)
  unfold faceAdd
  split
  · rename_i hk
    refine ⟨fun _ x y hx => ?_, fun e' => by omega, fun e' => by omega⟩
    dsimp only at hx
    unfold Ex.addXC at hx
    split at hx
    · unfold Ex.upd at hx
      split at hx
      · rename_i ex
        cases hx
        subst ex
        rw [te_bare (hp.1 (by omega)).1 (hp.1 (by omega)).2 (un_nm e.ks hn)]
        rw [hp.2 (by omega)] at hc
        exact hc
      · exact h.r1 hk x y hx
    · exact h.r1 hk x y hx
  · split
    · rename_i hk
      refine ⟨fun e' => by omega, fun _ n v y hx => ?_, fun e' => by omega⟩
      dsimp only at hx
      unfold addC at hx
      split at hx
      · rename_i h0
        have hg : Good k.wd (key0 e) ln := by
          unfold addCode at h0
          split at h0
          · assumption
          · cases h0
        by_cases e2 : n = (place k.wd (key0 e) ln).1 ∧ v = (place k.wd (key0 e) ln).2
        · obtain ⟨rfl, rfl⟩ := e2
          rw [upC_same] at hx
          cases hx
          obtain ⟨t1, t2⟩ := key_told (by rw [EntC.len hc]; exact h1 hk) hn hg
          rw [te_bare (hp.1 (by omega)).1 (hp.1 (by omega)).2 t1, t2]
          exact hc
        · rw [upC_other _ _ e2] at hx
          exact h.r2 hk n v y hx
      · exact h.r2 hk n v y hx
    · rename_i hk1 hk2
      refine ⟨fun e' => by omega, fun e' => by omega, fun hk x hx => ?_⟩
      dsimp only at hx
      unfold addTM at hx
      split at hx
      · rcases List.mem_append.1 hx with hx | hx
        · exact h.r3 hk x (List.mem_of_mem_take hx)
        · rcases List.mem_cons.1 hx with rfl | hx
          · rw [hp.2 (by omega)] at hc
            exact hc
          · exact h.r3 hk x (List.mem_of_mem_drop hx)
      · exact h.r3 hk x hx
theorem rt_chg {k : FK} {f : FSt} {ws : List Int} {Ms : List (Int × List Int)} {e : TE} {ln : Int} (h : Rt k ws Ms f) (h1 : k.kind = 2 → ws.length = 1) (hn : ∀ n ∈ e.ks, 0 ≤ n ∧ n < 18446744073709551616) : Rt k ws Ms (stChg k f ws Ms e ln).2 := by
  unfold stChg
  split
  · exact h
  rename_i hc
  have hc : entryC k.kind ws Ms e ln = 0 := by simpa using hc
  have hp := place_bare (entC_place hc)
  unfold faceChg
  split
  · rename_i hk
    refine ⟨fun _ x y hx => ?_, fun e' => by omega, fun e' => by omega⟩
    dsimp only at hx
    unfold Ex.chgXC at hx
    split at hx
    · unfold Ex.upd at hx
      split at hx
      · rename_i ex
        cases hx
        subst ex
        rw [te_bare (hp.1 (by omega)).1 (hp.1 (by omega)).2 (un_nm e.ks hn)]
        rw [hp.2 (by omega)] at hc
        exact hc
      · exact h.r1 hk x y hx
    · exact h.r1 hk x y hx
  · split
    · rename_i hk
      refine ⟨fun e' => by omega, fun _ n v y hx => ?_, fun e' => by omega⟩
      dsimp only at hx
      unfold chgC at hx
      split at hx
      · rename_i h0
        have hg : Good k.wd (key0 e) ln := by
          unfold hasCode at h0
          split at h0
          · assumption
          · cases h0
        by_cases e2 : n = (place k.wd (key0 e) ln).1 ∧ v = (place k.wd (key0 e) ln).2
        · obtain ⟨rfl, rfl⟩ := e2
          rw [upC_same] at hx
          cases hx
          obtain ⟨t1, t2⟩ := key_told (by rw [EntC.len hc]; exact h1 hk) hn hg
          rw [te_bare (hp.1 (by omega)).1 (hp.1 (by omega)).2 t1, t2]
          exact hc
        · rw [upC_other _ _ e2] at hx
          exact h.r2 hk n v y hx
      · exact h.r2 hk n v y hx
    · rename_i hk1 hk2
      refine ⟨fun e' => by omega, fun e' => by omega, fun hk x hx => ?_⟩
      dsimp only at hx
      unfold chgTM at hx
      split at hx
      · rcases List.mem_or_eq_of_mem_set hx with hx | rfl
        · exact h.r3 hk x hx
        · rw [hp.2 (by omega)] at hc
          exact hc
      · exact h.r3 hk x hx
theorem rt_drop {k : FK} {f : FSt} {ws : List Int} {Ms : List (Int × List Int)} {e : TE} {ln : Int} (h : Rt k ws Ms f) : Rt k ws Ms (stDrop k f ws e ln).2 := by
  unfold stDrop
  split
  · exact h
  unfold faceDrop
  split
  · rename_i hk
    refine ⟨fun _ x y hx => ?_, fun e' => by omega, fun e' => by omega⟩
    dsimp only at hx
    unfold Ex.dropXC at hx
    split at hx
    · unfold Ex.upd at hx
      split at hx
      · cases hx
      · exact h.r1 hk x y hx
    · exact h.r1 hk x y hx
  · split
    · rename_i hk
      refine ⟨fun e' => by omega, fun _ n v y hx => ?_, fun e' => by omega⟩
      dsimp only at hx
      unfold dropC at hx
      split at hx
      · by_cases e2 : n = (place k.wd (key0 e) ln).1 ∧ v = (place k.wd (key0 e) ln).2
        · obtain ⟨rfl, rfl⟩ := e2
          rw [upC_same] at hx
          cases hx
        · rw [upC_other _ _ e2] at hx
          exact h.r2 hk n v y hx
      · exact h.r2 hk n v y hx
    · refine ⟨fun e' => by omega, fun e' => by omega, fun hk x hx => ?_⟩
      dsimp only at hx
      unfold dropTM at hx
      split at hx
      · exact h.r3 hk x ((List.eraseIdx_sublist _ _).subset hx)
      · exact h.r3 hk x hx
end Go.Proofs.YtffbnggdckjogaaGreat

namespace Go.Proofs.YtffbnggdckjogaaGreat
open Go.RowKit Mth
def tldE (k : FK) (f : FSt) : List (TE × Int) :=
  if k.kind = 1 then (Ex.rising f.ss).map fun x => (⟨Ex.Mth.un x, [], 0, ((f.Cx x).getD (0, [])).1, ((f.Cx x).getD (0, [])).2⟩, 0)
  else if k.kind = 2 then (pre f.C (wid k.wd + 1) 0 0).map fun x => (⟨[((x.2 * 2 ^ (wid k.wd - x.1) : Nat) : Int)], [], 0, ((f.C x.1 x.2).getD (0, [])).1, ((f.C x.1 x.2).getD (0, [])).2⟩, (x.1 : Int))
  else f.T.map fun e => (e, 0)
theorem tldE_length {w : World} {k : FK} {f : FSt} (h : FaceAt w k f) : (tldE k f).length = faceLen k f := by
  unfold tldE faceLen
  rcases h with ⟨e, _⟩ | ⟨e, t, _⟩ | ⟨e, _⟩
  · rw [if_pos e, if_pos e, List.length_map, Ex.rising_length]
  · rw [if_neg (by omega), if_pos e, if_neg (by omega), if_pos e, List.length_map, t.perm.length_eq]
  · rw [if_neg (by omega), if_neg (by omega), if_neg (by omega), if_neg (by omega), List.length_map]
structure Alike (k k' : FK) : Prop where
  kind : k'.kind = k.kind
  K : k.kind = 1 → k'.K = k.K ∧ k'.M = k.M
  wd : k.kind = 2 → k'.wd = k.wd ∧ k'.most = k.most
  keys : k.kind = 3 → k'.keys = k.keys ∧ k'.most = k.most
def PartIs (k : FK) (f fu : FSt) (c m : Nat) : Prop :=
  (k.kind = 1 ∧ fu.ss = (turnL (Ex.rising f.ss) c).take m ∧ fu.Cx = fun x => if x ∈ fu.ss then f.Cx x else none) ∨
  (k.kind = 2 ∧ fu.es = (turnL (pre f.C (wid k.wd + 1) 0 0) c).take m ∧ fu.C = fun n v => if (n, v) ∈ fu.es then f.C n v else none) ∨
  (k.kind = 3 ∧ fu.T.Perm ((turnL f.T c).take m))
theorem prt_zero {w : World} {k : FK} {f : FSt} (h : FaceAt w k f) (c : Nat) : PartIs k f FSt.none c 0 := by
  rcases h.kinds with e | e | e
  · exact .inl ⟨e, by simp [FSt.none], by funext x; simp [FSt.none]⟩
  · exact .inr (.inl ⟨e, by simp [FSt.none], by funext n v; simp [FSt.none]⟩)
  · exact .inr (.inr ⟨e, by simp [FSt.none]⟩)
theorem few_of_ok {k : FK} {f : FSt} {w : World} (h : FaceAt w k f) (hk : k.kind = 3) : OkM k.keys k.most f.T := by
  rcases h with ⟨e, _⟩ | ⟨e, _⟩ | ⟨_, t, _⟩
  · omega
  · omega
  · exact t.ok
theorem prt_next {w : World} {k ku : FK} {f fu : FSt} {ws : List Int} {Ms : List (Int × List Int)} {c m : Nat} {x : TE × Int} (h : FaceAt w k f) (al : Alike k ku) (hes : k.kind = 2 → (f.es.length : Int) ≤ k.most) (rt : Rt k ws Ms f) (hp : PartIs k f fu c m) (hc : c < faceLen k f) (hm : m < faceLen k f) (hx : (tldE k f)[(m + c) % faceLen k f]? = some x) :
    (stAdd ku fu ws Ms x.1 x.2).1 = 0 ∧ PartIs k f (stAdd ku fu ws Ms x.1 x.2).2 c (m + 1) := by
  unfold tldE at hx
  unfold faceLen at hc hm hx
  rcases h with ⟨e, t, h1, h2, h3⟩ | ⟨e, t, h1, h2, _⟩ | ⟨e, t, h1, h2⟩
  · rw [if_pos e] at hc hm hx
    rw [if_pos e] at hx
    obtain ⟨-, p1, p2⟩ | ⟨e', _⟩ | ⟨e', _⟩ := hp
    · obtain ⟨eK, eM⟩ := al.K e
      have ek := al.kind
      have hrl := Ex.rising_length f.ss
      rw [List.getElem?_map] at hx
      cases hy : (Ex.rising f.ss)[(m + c) % f.ss.length]? with
      | none => rw [hy] at hx; cases hx
      | some y =>
        rw [hy] at hx
        cases hx
        obtain ⟨n1, n2, n3⟩ := turnL_next (zs := Ex.rising f.ss) (c := c) (k := m) (by omega) (by omega) (by rw [hrl]; exact hy)
        have hys := Ex.rising_mem.1 n2
        have nd : (Ex.rising f.ss).Nodup := ((List.mergeSort_perm _ _).nodup_iff).2 t.nd
        have hny := n3 nd
        rw [← p1] at hny n1
        obtain ⟨hh, hC⟩ := Option.isSome_iff_exists.1 ((t.mem y).1 hys)
        have hlen := t.len y hys
        have hr := rt.r1 e y hh hC
        have hnm := Ex.Mth.nm_un y k.K hlen
        have hul : (Ex.Mth.un y).length = k.K := by rw [Ex.Mth.un_length]; omega
        have hul' : fu.ss.length < k.M := by
          have := t.most
          have e2 : fu.ss.length = min m (turnL (Ex.rising f.ss) c).length := by rw [p1, List.length_take]
          omega
        have hcode : Ex.addCode fu.Cx fu.ss ku.K ku.M (Ex.Mth.un y).length (Ex.Mth.nm (Ex.Mth.un y)) = 0 := by
          unfold Ex.addCode
          rw [if_neg (by rw [eK]; omega), hnm, p2, if_neg (by simp [hny]), if_neg (by rw [eM]; omega)]
        have hst : stAdd ku fu ws Ms ⟨Ex.Mth.un y, [], 0, ((f.Cx y).getD (0, [])).1, ((f.Cx y).getD (0, [])).2⟩ 0 = (0, { fu with Cx := Ex.upd fu.Cx y (some hh), ss := fu.ss ++ [y] }) := by
          rw [hC]
          unfold stAdd
          rw [ek, if_neg (by simpa using hr)]
          unfold faceAdd
          rw [if_pos (by omega)]
          dsimp only [Option.getD_some]
          unfold Ex.addXC Ex.addXS
          rw [hcode, if_pos rfl, if_pos rfl, hnm]
        rw [hst]
        refine ⟨rfl, .inl ⟨e, n1.symm, ?_⟩⟩
        funext z
        show Ex.upd fu.Cx y (some hh) z = if z ∈ fu.ss ++ [y] then f.Cx z else none
        unfold Ex.upd
        by_cases ez : z = y
        · subst ez
          rw [if_pos rfl, if_pos (by simp), hC]
        · rw [if_neg ez, p2]
          simp [ez]
    · omega
    · omega
  · rw [if_neg (by omega), if_pos e] at hc hm hx
    rw [if_neg (by omega), if_pos e] at hx
    obtain ⟨e', _⟩ | ⟨-, p1, p2⟩ | ⟨e', _⟩ := hp
    · omega
    · obtain ⟨eW, eM⟩ := al.wd e
      have ek := al.kind
      have hpl := t.perm.length_eq
      rw [List.getElem?_map] at hx
      cases hy : (pre f.C (wid k.wd + 1) 0 0)[(m + c) % f.es.length]? with
      | none => rw [hy] at hx; cases hx
      | some y =>
        obtain ⟨n, v⟩ := y
        rw [hy] at hx
        cases hx
        obtain ⟨n1, n2, n3⟩ := turnL_next (zs := pre f.C (wid k.wd + 1) 0 0) (c := c) (k := m) (by omega) (by omega) (by rw [hpl]; exact hy)
        have hys : (n, v) ∈ f.es := t.perm.mem_iff.1 n2
        have hny := n3 (pre_nodup _ _ _ _)
        rw [← p1] at hny n1
        have hsome := (t.mem n v).1 hys
        obtain ⟨hh, hC⟩ := Option.isSome_iff_exists.1 hsome
        obtain ⟨g1, g2⟩ := t.rng n v hsome
        have hwd : 1 ≤ k.wd ∧ k.wd ≤ 64 := by
          by_cases h : 1 ≤ k.wd ∧ k.wd ≤ 64
          · exact h
          · rw [t.emp h] at hys; cases hys
        have hwi := wid_good hwd.1 hwd.2
        have hWn : k.wd.toNat = wid k.wd := by omega
        have hr := rt.r2 e n v hh hC
        have hul' : (fu.es.length : Int) < k.most := by
          have := hes e
          have e2 : fu.es.length = min m (turnL (pre f.C (wid k.wd + 1) 0 0) c).length := by rw [p1, List.length_take]
          omega
        have hsub : (k.wd - (n : Int)).toNat = wid k.wd - n := by omega
        have hkey : v * 2 ^ (wid k.wd - n) < 2 ^ wid k.wd := by
          have e2 : 2 ^ wid k.wd = 2 ^ n * 2 ^ (wid k.wd - n) := by rw [← Nat.pow_add]; congr 1; omega
          rw [e2]
          exact Nat.mul_lt_mul_of_pos_right g2 (Nat.two_pow_pos _)
        have hgood : Good k.wd (v * 2 ^ (wid k.wd - n)) n := ⟨hwd.1, hwd.2, by omega, by omega, by rw [hWn]; exact hkey, by rw [hsub]; exact Nat.mul_mod_left _ _⟩
        have hplace : place k.wd (v * 2 ^ (wid k.wd - n)) n = (n, v) := by
          unfold place
          rw [Int.toNat_natCast, hWn, Nat.mul_div_cancel _ (Nat.two_pow_pos _)]
        have hk0 : key0 ⟨[((v * 2 ^ (wid k.wd - n) : Nat) : Int)], [], 0, hh.1, hh.2⟩ = v * 2 ^ (wid k.wd - n) := Int.toNat_natCast _
        have hcode : addCode fu.C fu.es ku.wd ku.most (v * 2 ^ (wid k.wd - n)) n = 0 := by
          unfold addCode
          rw [eW, if_pos hgood, hplace, p2, if_neg (by simp [hny]), if_neg (by rw [eM]; omega)]
        have hst : stAdd ku fu ws Ms ⟨[((v * 2 ^ (wid k.wd - n) : Nat) : Int)], [], 0, ((f.C n v).getD (0, [])).1, ((f.C n v).getD (0, [])).2⟩ (n : Int) = (0, { fu with C := upC fu.C n v (some hh), es := fu.es ++ [(n, v)] }) := by
          rw [hC]
          unfold stAdd
          dsimp only [Option.getD_some]
          rw [ek, if_neg (by simpa using hr)]
          unfold faceAdd
          rw [if_neg (by omega), if_pos (by omega), hk0]
          unfold addC addE
          rw [hcode, if_pos rfl, if_pos rfl, eW, hplace]
        show (stAdd ku fu ws Ms ⟨[((v * 2 ^ (wid k.wd - n) : Nat) : Int)], [], 0, ((f.C n v).getD (0, [])).1, ((f.C n v).getD (0, [])).2⟩ (n : Int)).1 = 0 ∧ PartIs k f (stAdd ku fu ws Ms ⟨[((v * 2 ^ (wid k.wd - n) : Nat) : Int)], [], 0, ((f.C n v).getD (0, [])).1, ((f.C n v).getD (0, [])).2⟩ (n : Int)).2 c (m + 1)
        rw [hst]
        refine ⟨rfl, .inr (.inl ⟨e, n1.symm, ?_⟩)⟩
        funext a b
        show upC fu.C n v (some hh) a b = if (a, b) ∈ fu.es ++ [(n, v)] then f.C a b else none
        by_cases ez : a = n ∧ b = v
        · obtain ⟨rfl, rfl⟩ := ez
          rw [upC_same, if_pos (by simp), hC]
        · rw [upC_other _ _ ez, p2]
          have : ¬ ((a, b) = (n, v)) := fun h => ez ⟨congrArg Prod.fst h, congrArg Prod.snd h⟩
          simp only [List.mem_append, List.mem_singleton, this, or_false]
    · omega
  · rw [if_neg (by omega), if_neg (by omega)] at hc hm hx
    rw [if_neg (by omega), if_neg (by omega)] at hx
    obtain ⟨e', _⟩ | ⟨e', _⟩ | ⟨-, p1⟩ := hp
    · omega
    · omega
    · obtain ⟨eK, eM⟩ := al.keys e
      have ek := al.kind
      rw [List.getElem?_map] at hx
      cases hy : f.T[(m + c) % f.T.length]? with
      | none => rw [hy] at hx; cases hx
      | some y =>
        rw [hy] at hx
        cases hx
        obtain ⟨n1, n2, -⟩ := turnL_next (zs := f.T) hc hm hy
        have ok := t.ok
        have hpl := (turnL_perm f.T c)
        have hul' : (fu.T.length : Int) < k.most := by
          have := ok.few
          have e2 := p1.length_eq
          rw [List.length_take, hpl.length_eq] at e2
          omega
        -- the one that comes is none of those that are there, and meets none
        have hap : ∀ z ∈ (turnL f.T c).take m, ¬ SameP z y ∧ ¬ (z.pr = y.pr ∧ Meets z y) := by
          intro z hz
          have nd : f.T.Nodup := ok.srt.imp (fun {a b} h hab => by subst hab; exact cmpE_irrefl _ h)
          have hnz : y ∉ (turnL f.T c).take m := by
            have := turnL_next (zs := f.T) hc hm hy
            exact this.2.2 nd
          have hzT : z ∈ f.T := hpl.mem_iff.1 (List.mem_of_mem_take hz)
          have hne : z ≠ y := fun h => hnz (h ▸ hz)
          refine ⟨fun hs => hne (sorted_same ok.srt hzT n2 hs), fun ⟨hpr, hme⟩ => ?_⟩
          obtain ⟨i, hi⟩ := List.getElem?_of_mem hzT
          obtain ⟨j, hj⟩ := List.getElem?_of_mem n2
          rcases Nat.lt_trichotomy i j with q | q | q
          · exact apart_at ok.apart q hi hj hpr hme
          · subst q; rw [hi] at hj; exact hne (Option.some.inj hj)
          · exact apart_at ok.apart q hj hi hpr.symm (meets_comm (by
              have g1 := (ok.good z hzT).1
              have g2 := (ok.good y n2).1
              omega) hme)
        have hcode : addCM ku.keys ku.most fu.T y = 0 := by
          rw [addC_perm p1]
          unfold addCM
          rw [eK, if_pos (ok.good y n2), if_neg (fun ⟨z, hz, hs⟩ => (hap z hz).1 hs), if_neg (fun ⟨z, hz, hs⟩ => (hap z hz).2 hs), if_neg (by rw [eM, ← p1.length_eq]; omega)]
        have hr := rt.r3 e y n2
        have hst : stAdd ku fu ws Ms y 0 = (0, { fu with T := fu.T.take (cutI fu.T y) ++ y :: fu.T.drop (cutI fu.T y) }) := by
          unfold stAdd
          rw [ek, if_neg (by simpa using hr)]
          unfold faceAdd
          rw [if_neg (by omega), if_neg (by omega)]
          unfold addTM
          rw [hcode, if_pos rfl]
        show (stAdd ku fu ws Ms y 0).1 = 0 ∧ PartIs k f (stAdd ku fu ws Ms y 0).2 c (m + 1)
        rw [hst]
        refine ⟨rfl, .inr (.inr ⟨e, ?_⟩)⟩
        rw [n1]
        exact add_perm p1 _ _
theorem sorted_perm {T E : List TE} (h : SortedM T) (g : SortedM E) (p : T.Perm E) : T = E :=
  p.eq_of_pairwise (fun a b _ _ h1 h2 => by rw [cmpE_flip] at h2; omega) h g
theorem prt_end {w w' : World} {k ku : FK} {f fu : FSt} {c : Nat} (h : FaceAt w k f) (hu : FaceAt w' ku fu) (al : Alike k ku) (hp : PartIs k f fu c (faceLen k f)) :
    (∀ ks, faceFind ku fu ks = faceFind k f ks) ∧ faceLen ku fu = faceLen k f ∧ ∀ wv v, AllIs wv ku fu v → AllIs wv k f v := by
  unfold faceLen at hp
  have ek := al.kind
  rcases h with ⟨e, t, h1, h2, h3⟩ | ⟨e, t, h1, h2, _⟩ | ⟨e, t, h1, h2⟩
  · rw [if_pos e] at hp
    obtain ⟨-, p1, p2⟩ | ⟨e', _⟩ | ⟨e', _⟩ := hp
    · obtain ⟨eK, eM⟩ := al.K e
      have hpl : (turnL (Ex.rising f.ss) c).length = f.ss.length := by rw [(turnL_perm _ _).length_eq, Ex.rising_length]
      rw [List.take_of_length_le (by omega)] at p1
      have hperm : fu.ss.Perm f.ss := by rw [p1]; exact (turnL_perm _ _).trans (List.mergeSort_perm _ _)
      have hC : fu.Cx = f.Cx := by
        rw [p2]
        funext x
        by_cases hx : x ∈ fu.ss
        · rw [if_pos hx]
        · rw [if_neg hx]
          cases hf : f.Cx x with
          | none => rfl
          | some y => exact absurd (hperm.mem_iff.2 ((t.mem x).2 (by rw [hf]; rfl))) hx
      have hri : Ex.rising fu.ss = Ex.rising f.ss := Go.mergeSort_of_perm hperm
      refine ⟨fun ks => ?_, ?_, fun wv v hv => ?_⟩
      · unfold faceFind
        rw [if_pos (by omega), if_pos e, hC, eK]
      · unfold faceLen
        rw [if_pos (by omega), if_pos e, hperm.length_eq]
      · rcases hv with ⟨_, hv⟩ | ⟨e', _⟩ | ⟨e', _⟩
        · rw [hri, hC] at hv
          exact .inl ⟨e, hv⟩
        · omega
        · omega
    · omega
    · omega
  · rw [if_neg (by omega), if_pos e] at hp
    obtain ⟨e', _⟩ | ⟨-, p1, p2⟩ | ⟨e', _⟩ := hp
    · omega
    · obtain ⟨eW, eM⟩ := al.wd e
      have hpl : (turnL (pre f.C (wid k.wd + 1) 0 0) c).length = f.es.length := by rw [(turnL_perm _ _).length_eq, t.perm.length_eq]
      rw [List.take_of_length_le (by omega)] at p1
      have hperm : fu.es.Perm f.es := by rw [p1]; exact (turnL_perm _ _).trans t.perm
      have hC : fu.C = f.C := by
        rw [p2]
        funext n v
        by_cases hx : (n, v) ∈ fu.es
        · rw [if_pos hx]
        · rw [if_neg hx]
          cases hf : f.C n v with
          | none => rfl
          | some y => exact absurd (hperm.mem_iff.2 ((t.mem n v).2 (by rw [hf]; rfl))) hx
      refine ⟨fun ks => ?_, ?_, fun wv v hv => ?_⟩
      · unfold faceFind
        rw [if_neg (by omega), if_pos (by omega), if_neg (by omega), if_pos e, hC, eW]
      · unfold faceLen
        rw [if_neg (by omega), if_pos (by omega), if_neg (by omega), if_pos e, hperm.length_eq]
      · rcases hv with ⟨e', _⟩ | ⟨_, a, cc, ev, hv⟩ | ⟨e', _⟩
        · omega
        · rw [hC, eW, hperm.length_eq] at hv
          rw [hperm.length_eq] at ev
          exact .inr (.inl ⟨e, a, cc, ev, hv⟩)
        · omega
    · omega
  · rw [if_neg (by omega), if_neg (by omega)] at hp
    obtain ⟨e', _⟩ | ⟨e', _⟩ | ⟨-, p1⟩ := hp
    · omega
    · omega
    · obtain ⟨eK, eM⟩ := al.keys e
      have hpl : (turnL f.T c).length = f.T.length := (turnL_perm _ _).length_eq
      rw [List.take_of_length_le (by omega)] at p1
      have hT : fu.T = f.T := sorted_perm (few_of_ok hu (by omega)).srt t.ok.srt (p1.trans (turnL_perm _ _))
      refine ⟨fun ks => ?_, ?_, fun wv v hv => ?_⟩
      · unfold faceFind
        rw [if_neg (by omega), if_neg (by omega), if_neg (by omega), if_neg (by omega), hT, eK]
      · unfold faceLen
        rw [if_neg (by omega), if_neg (by omega), if_neg (by omega), if_neg (by omega), hT]
      · rcases hv with ⟨e', _⟩ | ⟨e', _⟩ | ⟨_, a, cc, ev, hv⟩
        · omega
        · omega
        · rw [hT] at hv ev
          exact .inr (.inr ⟨e, a, cc, ev, hv⟩)
end Go.Proofs.YtffbnggdckjogaaGreat
