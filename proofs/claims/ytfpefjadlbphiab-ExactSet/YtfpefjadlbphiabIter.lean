/- What slices.Sorted(maps.Keys(m)) does here, by the contracts of the library. -/
import Derived.Test.YtfpefjadlbphiabBase
import Derived.Shelf.SlIter.Nil
import Derived.Shelf.SortM.Plain
import Derived.Shelf.SortM.SortNone
namespace Go.Proofs.Ytfpefjadlbphiab
open Go.RowKit Go.Maps Go.Sort Go.Shelf

def Itr.keysRen : Go.Shelf.Ren := ⟨fun | 7 => 54 | 10 => 69 | n => n, fun | 23 => 78 | 26 => 9 | 3 => 59 | 28 => 88 | 0 => 0 | 27 => 87 | 33 => 100 | 4 => 4 | n => n, fun | n => n⟩

theorem Itr.keysL : Go.Proofs.SlLaysZ.n7 Try.prog Itr.keysRen :=
  { mixed := by kernel_rfl,
    f7 := ⟨Try.f54.name, by decide, Try.func54.trans (congrArg some (by kernel_rfl))⟩,
    f10 := ⟨Try.f69.name, by decide, Try.func69.trans (congrArg some (by kernel_rfl))⟩,
    t0 := Try.underlying0,
    a0 := Try.isAgg0,
    z0 := Try.sizeOf0,
    v0 := Try.zeroValue0,
    t4 := Try.underlying4,
    a4 := Try.isAgg4,
    z4 := Try.sizeOf4,
    v4 := Try.zeroValue4,
    t23 := Try.underlying78,
    a23 := Try.isAgg78,
    z23 := Try.sizeOf78,
    v23 := Try.zeroValue78,
    t26 := Try.underlying9,
    a26 := Try.isAgg9,
    z26 := Try.sizeOf9,
    v26 := Try.zeroValue9,
    t27 := Try.underlying87,
    a27 := Try.isAgg87,
    z27 := Try.sizeOf87,
    v27 := Try.zeroValue87,
    t28 := Try.underlying88,
    a28 := Try.isAgg88,
    z28 := Try.sizeOf88,
    v28 := Try.zeroValue88,
    t33 := Try.underlying100,
    a33 := Try.isAgg100,
    z33 := Try.sizeOf100,
    v33 := Try.zeroValue100 }

def Itr.sortedRen : Go.Shelf.Ren := ⟨fun | 6 => 53 | 8 => 67 | 9 => 68 | 11 => 76 | 13 => 78 | 12 => 77 | 23 => 88 | 24 => 89 | 14 => 79 | 15 => 80 | 16 => 81 | 17 => 82 | 18 => 83 | 19 => 84 | 20 => 85 | 21 => 86 | 22 => 87 | 25 => 90 | 26 => 91 | 27 => 92 | 28 => 93 | 29 => 94 | 30 => 95 | 31 => 96 | n => n, fun | 26 => 9 | 28 => 88 | 24 => 85 | 0 => 0 | 3 => 3 | 37 => 24 | 48 => 119 | 50 => 71 | 4 => 4 | 40 => 111 | 39 => 110 | 45 => 116 | 5 => 5 | 9 => 9 | 51 => 121 | 55 => 125 | 57 => 127 | 58 => 128 | 33 => 100 | n => n, fun | n => n⟩

theorem Itr.sortedL : Go.Proofs.SlLaysZ.n6 Try.prog Itr.sortedRen :=
  { mixed := by kernel_rfl,
    f6 := ⟨Try.f53.name, by decide, Try.func53.trans (congrArg some (by kernel_rfl))⟩,
    f8 := ⟨Try.f67.name, by decide, Try.func67.trans (congrArg some (by kernel_rfl))⟩,
    f11 := ⟨Try.f76.name, by decide, Try.func76.trans (congrArg some (by kernel_rfl))⟩,
    t0 := Try.underlying0,
    a0 := Try.isAgg0,
    z0 := Try.sizeOf0,
    v0 := Try.zeroValue0,
    t24 := Try.underlying85,
    a24 := Try.isAgg85,
    z24 := Try.sizeOf85,
    v24 := Try.zeroValue85,
    t26 := Try.underlying9,
    a26 := Try.isAgg9,
    z26 := Try.sizeOf9,
    v26 := Try.zeroValue9,
    t28 := Try.underlying88,
    a28 := Try.isAgg88,
    z28 := Try.sizeOf88,
    v28 := Try.zeroValue88,
    i26 := by kernel_rfl }

def Itr.sortRen : Go.Shelf.Ren := ⟨fun | 6 => 68 | 8 => 78 | 9 => 77 | 19 => 88 | 20 => 89 | 21 => 79 | 22 => 80 | 23 => 81 | 24 => 82 | 25 => 83 | 26 => 84 | 27 => 85 | 28 => 86 | 29 => 87 | 36 => 90 | 31 => 91 | 32 => 92 | 37 => 93 | 38 => 94 | 39 => 95 | 41 => 96 | n => n, fun | 27 => 85 | 29 => 9 | 3 => 3 | 32 => 24 | 26 => 85 | 0 => 0 | 44 => 119 | 46 => 71 | 4 => 4 | 36 => 111 | 35 => 110 | 41 => 116 | 5 => 5 | 9 => 9 | 53 => 121 | 57 => 125 | 63 => 127 | 64 => 128 | n => n, fun | n => n⟩

theorem Itr.sortL : Go.Proofs.SlLaysM.n6 Try.prog Itr.sortRen :=
  { mixed := by kernel_rfl,
    f6 := ⟨Try.f68.name, by decide, Try.func68.trans (congrArg some (by kernel_rfl))⟩,
    f8 := Try.func78.trans (congrArg some (by kernel_rfl)),
    f9 := ⟨Try.f77.name, by decide, Try.func77.trans (congrArg some (by kernel_rfl))⟩,
    f19 := Try.func88.trans (congrArg some (by kernel_rfl)),
    f20 := Try.func89.trans (congrArg some (by kernel_rfl)),
    f21 := ⟨Try.f79.name, by decide, Try.func79.trans (congrArg some (by kernel_rfl))⟩,
    f22 := ⟨Try.f80.name, by decide, Try.func80.trans (congrArg some (by kernel_rfl))⟩,
    f23 := ⟨Try.f81.name, by decide, Try.func81.trans (congrArg some (by kernel_rfl))⟩,
    f24 := ⟨Try.f82.name, by decide, Try.func82.trans (congrArg some (by kernel_rfl))⟩,
    f25 := ⟨Try.f83.name, by decide, Try.func83.trans (congrArg some (by kernel_rfl))⟩,
    f26 := ⟨Try.f84.name, by decide, Try.func84.trans (congrArg some (by kernel_rfl))⟩,
    f27 := ⟨Try.f85.name, by decide, Try.func85.trans (congrArg some (by kernel_rfl))⟩,
    f28 := ⟨Try.f86.name, by decide, Try.func86.trans (congrArg some (by kernel_rfl))⟩,
    f29 := ⟨Try.f87.name, by decide, Try.func87.trans (congrArg some (by kernel_rfl))⟩,
    f31 := Try.func91.trans (congrArg some (by kernel_rfl)),
    f32 := Try.func92.trans (congrArg some (by kernel_rfl)),
    f36 := ⟨Try.f90.name, by decide, Try.func90.trans (congrArg some (by kernel_rfl))⟩,
    f37 := ⟨Try.f93.name, by decide, Try.func93.trans (congrArg some (by kernel_rfl))⟩,
    f38 := ⟨Try.f94.name, by decide, Try.func94.trans (congrArg some (by kernel_rfl))⟩,
    f39 := ⟨Try.f95.name, by decide, Try.func95.trans (congrArg some (by kernel_rfl))⟩,
    f41 := ⟨Try.f96.name, by decide, Try.func96.trans (congrArg some (by kernel_rfl))⟩,
    t0 := Try.underlying0,
    a0 := Try.isAgg0,
    z0 := Try.sizeOf0,
    v0 := Try.zeroValue0,
    t3 := Try.underlying3,
    a3 := Try.isAgg3,
    z3 := Try.sizeOf3,
    v3 := Try.zeroValue3,
    t4 := Try.underlying4,
    a4 := Try.isAgg4,
    z4 := Try.sizeOf4,
    v4 := Try.zeroValue4,
    t5 := Try.underlying5,
    a5 := Try.isAgg5,
    z5 := Try.sizeOf5,
    v5 := Try.zeroValue5,
    t9 := Try.underlying9,
    a9 := Try.isAgg9,
    z9 := Try.sizeOf9,
    v9 := Try.zeroValue9,
    t26 := Try.underlying85,
    a26 := Try.isAgg85,
    z26 := Try.sizeOf85,
    v26 := Try.zeroValue85,
    t27 := Try.underlying85,
    a27 := Try.isAgg85,
    z27 := Try.sizeOf85,
    v27 := Try.zeroValue85,
    t29 := Try.underlying9,
    a29 := Try.isAgg9,
    z29 := Try.sizeOf9,
    v29 := Try.zeroValue9,
    t32 := Try.underlying24,
    a32 := Try.isAgg24,
    z32 := Try.sizeOf24,
    v32 := Try.zeroValue24,
    t35 := Try.underlying110,
    a35 := Try.isAgg110,
    z35 := Try.sizeOf110,
    v35 := Try.zeroValue110,
    t36 := Try.underlying111,
    a36 := Try.isAgg111,
    z36 := Try.sizeOf111,
    v36 := Try.zeroValue111,
    t41 := Try.underlying116,
    a41 := Try.isAgg116,
    z41 := Try.sizeOf116,
    v41 := Try.zeroValue116,
    t44 := Try.underlying119,
    a44 := Try.isAgg119,
    z44 := Try.sizeOf119,
    v44 := Try.zeroValue119,
    t46 := Try.underlying71,
    a46 := Try.isAgg71,
    z46 := Try.sizeOf71,
    v46 := Try.zeroValue71,
    t53 := Try.underlying121,
    a53 := Try.isAgg121,
    z53 := Try.sizeOf121,
    v53 := Try.zeroValue121,
    t57 := Try.underlying125,
    a57 := Try.isAgg125,
    z57 := Try.sizeOf125,
    v57 := Try.zeroValue125,
    t63 := Try.underlying127,
    a63 := Try.isAgg127,
    z63 := Try.sizeOf127,
    v63 := Try.zeroValue127,
    t64 := Try.underlying128,
    a64 := Try.isAgg128,
    z64 := Try.sizeOf128,
    v64 := Try.zeroValue128 }

theorem Itr.sorts (m : Nat) : AnyZ.SortsIn Try.prog Itr.sortedRen Fence.wide m :=
  ⟨fun blk off cap ss W hH hblk hsz => callsIn_wide.2 (AnyM.slices_Sort_string Itr.sortL blk off cap ss W hH hblk hsz),
   fun p cap W => callsIn_wide.2 (AnyM.slices_Sort_string_none Itr.sortL p cap W)⟩

theorem Itr.maps_keys (mb : Option Nat) (W : World) : CallsIn Fence.wide 5 Try.prog 54 #[.map mb] W fun e w' => e = .returned (.func (.func 69) #[] #[.pointer (some ⟨W.heap.size, 0, none⟩)]) ∧ w' = W.alloc (.cells #[.map mb] 78) :=
  AnyZ.keys_in Itr.keysL Fence.wide 5 trivial rfl mb W

set_option maxHeartbeats 1000000 in
theorem Itr.sorted_keys {H : Type} (b nn : Nat) (D0 : DataW H) (R : Value → Option (DataW H × List MemPlace)) (w : World) (hown : w.ownsMap Try.prog 9 R b nn D0) (hmax : Maps.size D0 ≤ maxLen) (hbytes : Maps.size D0 * 16 ≤ 140737488355328) :
    CallsIn Fence.wide 5 Try.prog 53 #[.func (.func 69) #[] #[.pointer (some ⟨w.heap.size, 0, none⟩)]] (w.alloc (.cells #[.map (some b)] 78)) fun e w' => ∃ (v : Value) (ss : List (List UInt8)), e = .returned v ∧ ss.Perm (strKeys D0) ∧
      w'.ownsRow (w.alloc (.cells #[.map (some b)] 78)).heap.size 9 1 v ss.length ((ss.mergeSort (fun x y => decide (x ≤ y))).map encStr) ∧ (v = .slice none 0 0 ↔ ss = []) ∧ Below (w.alloc (.cells #[.map (some b)] 78)).heap.size (w.alloc (.cells #[.map (some b)] 78)) w' := by
  have hbl := hown.lt
  have hseq : SeqGives Fence.wide 2 Try.prog 69 #[.pointer (some ⟨w.heap.size, 0, none⟩)] encStr (fun ss => ss.Perm (strKeys D0)) (Maps.size D0) (w.alloc (.cells #[.map (some b)] 78)) :=
    AnyZ.keys_gives (ρ := Itr.keysRen) { Itr.keysL with } Fence.wide _ trivial rfl (by omega) w.heap.size b nn D0 _ (by simp) (by simp) (by
      obtain ⟨es, clock, hb, Ft, hs, hD⟩ := hown
      exact ⟨es, clock, (Below.heap_alloc _ _ b hbl).trans hb, Ft, hs, hD⟩)
  exact AnyZ.sorted_in Itr.sortedL Fence.wide 5 trivial trivial trivial trivial rfl (by omega) (Itr.sorts _) (enters_of Try.func68 (by kernel_rfl) rfl) 69 #[.pointer (some ⟨w.heap.size, 0, none⟩)] trivial (enters_of Try.func69 (by kernel_rfl) rfl) _ _ hmax hbytes _ hseq

set_option maxHeartbeats 1000000 in
theorem Itr.sorted_keys_nil (w : World) :
    CallsIn Fence.wide 5 Try.prog 53 #[.func (.func 69) #[] #[.pointer (some ⟨w.heap.size, 0, none⟩)]] (w.alloc (.cells #[.map none] 78)) fun e w' => ∃ (v : Value) (ss : List (List UInt8)), e = .returned v ∧ ss = [] ∧
      w'.ownsRow (w.alloc (.cells #[.map none] 78)).heap.size 9 1 v ss.length ((ss.mergeSort (fun x y => decide (x ≤ y))).map encStr) ∧ (v = .slice none 0 0 ↔ ss = []) ∧ Below (w.alloc (.cells #[.map none] 78)).heap.size (w.alloc (.cells #[.map none] 78)) w' := by
  have hseq : SeqGives Fence.wide 2 Try.prog 69 #[.pointer (some ⟨w.heap.size, 0, none⟩)] encStr (fun ss : List (List UInt8) => ss = []) 0 (w.alloc (.cells #[.map none] 78)) :=
    AnyZ.keys_gives_nil (ρ := Itr.keysRen) { Itr.keysL with } Fence.wide _ trivial rfl w.heap.size _ (by simp) (by simp)
  exact AnyZ.sorted_in Itr.sortedL Fence.wide 5 trivial trivial trivial trivial rfl (by omega) (Itr.sorts _) (enters_of Try.func68 (by kernel_rfl) rfl) 69 #[.pointer (some ⟨w.heap.size, 0, none⟩)] trivial (enters_of Try.func69 (by kernel_rfl) rfl) _ 0 (Nat.zero_le _) (by omega) _ hseq
end Go.Proofs.Ytfpefjadlbphiab
