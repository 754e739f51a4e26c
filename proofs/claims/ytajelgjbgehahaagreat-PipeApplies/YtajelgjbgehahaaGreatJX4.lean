/- Texts of one chain, joined: XCargo1, XTripOf. -/
import Derived.Test.YtajelgjbgehahaaGreatJX2
namespace Go.Proofs.YtajelgjbgehahaaGreat
open Go.RowKit

theorem Tryz.infoNums2 : (Tryz.prog.info? 53).map (fun i => (i.zero, i.size, i.bytes)) = some (some (.slice none 0 0), 1, 24) := by kernel_rfl
theorem Tryz.infoBool2 : (Tryz.prog.info? 4).map (fun i => (i.zero, i.size, i.bytes)) = some (some (.bool false), 1, 1) := by kernel_rfl

theorem made_one (z : Value) : madeCells #[z] 1 = #[z] := Array.toList_inj.1 (toList_madeCells_one z 1)
theorem made_none (z : Value) : madeCells #[z] 0 = #[] := Array.toList_inj.1 (toList_madeCells_one z 0)

/-- a block that holds just these cells, and may be written -/
structure Holds (w W : World) (b : Nat) (cs : Array Value) : Prop where
  cell : ∀ j, W.cell? ⟨b, j, none⟩ = cs[j]?
  frz : ∀ o, W.frozen? ⟨b, o, none⟩ = false
  lt : b < W.heap.size
  le : w.heap.size ≤ b

theorem Holds.last {w W : World} {cs : Array Value} {T : TypeId} {b : Nat} (hb : b = W.heap.size) (h : w.heap.size ≤ W.heap.size) : Holds w (W.alloc (.cells cs T)) b cs := by
  subst hb
  exact ⟨fun j => World.cell?_alloc_at _ _ _ _ rfl, fun o => World.frozen?_alloc_at _ _ _ _ rfl, by simp, h⟩
theorem Holds.past {w W : World} {cs : Array Value} {b : Nat} {o : Obj} (h : Holds w W b cs) : Holds w (W.alloc o) b cs :=
  ⟨fun j => (World.cell?_alloc_past _ _ _ h.lt).trans (h.cell j), fun x => (World.frozen?_alloc_past _ _ _ h.lt).trans (h.frz x), Nat.lt_of_lt_of_le h.lt (by simp), h.le⟩
theorem Holds.drew {w W : World} {cs : Array Value} {b : Nat} (h : Holds w W b cs) : Holds w W.drew b cs := ⟨h.cell, h.frz, h.lt, h.le⟩
theorem Holds.step {w W W' : World} {cs : Array Value} {b : Nat} (h : Holds w W b cs) (k : Below W.heap.size W W') : Holds w W' b cs :=
  ⟨fun j => (k.cell (p := ⟨b, j, none⟩) h.lt).trans (h.cell j), fun o => (k.frozen (p := ⟨b, o, none⟩) h.lt).trans (h.frz o), Nat.lt_of_lt_of_le h.lt k.size, h.le⟩
theorem Holds.but {w W W' : World} {cs : Array Value} {b g : Nat} (h : Holds w W b cs) (k : But g W W') (hn : b ≠ g) : Holds w W' b cs := by
  refine ⟨fun j => ?_, fun o => (k.frozen hn h.lt).trans (h.frz o), Nat.lt_of_lt_of_le h.lt k.size, h.le⟩
  rw [← h.cell j]
  have := k.up b h.lt hn
  unfold World.cell?
  simp only
  rw [this]

/-- the four blocks of a cargo, in whatever order they were made -/
structure Four (w W : World) (port : Int) (th mt pt cb : Nat) : Prop where
  hth : Holds w W th #[.bool false]
  hmt : Holds w W mt #[]
  hpt : Holds w W pt #[.int .u64 port]
  hcb : Holds w W cb #[.slice none 0 0, .slice none 0 0, .slice none 0 0, .slice none 0 0]
  ne : th ≠ mt ∧ th ≠ pt ∧ th ≠ cb ∧ mt ≠ pt ∧ mt ≠ cb ∧ pt ≠ cb
  bel : Below w.heap.size w W

/-- the blocks of a cargo of one header with one field -/
structure CargoIs (w W : World) (port : Int) (th mt pt vb r0 : Nat) : Prop where
  hth : Holds w W th #[.bool false]
  hmt : Holds w W mt #[]
  hpt : Holds w W pt #[.int .u64 port]
  hr0 : Holds w W r0 #[.int .u64 0]
  cv : W.cell? ⟨vb, 0, none⟩ = some (.slice (some ⟨r0, 0, none⟩) 1 1)
  vle : w.heap.size ≤ vb
  ne : th ≠ mt ∧ th ≠ pt ∧ th ≠ r0 ∧ th ≠ vb ∧ mt ≠ pt ∧ mt ≠ r0 ∧ mt ≠ vb ∧ pt ≠ r0 ∧ pt ≠ vb ∧ r0 ≠ vb
  bel : Below w.heap.size w W

theorem Holds.low {w w2 W : World} {cs : Array Value} {b : Nat} (h : Holds w2 W b cs) (k : w.heap.size ≤ w2.heap.size) : Holds w W b cs := ⟨h.cell, h.frz, h.lt, Nat.le_trans k h.le⟩

theorem CargoIs.but {w W W' : World} {port : Int} {th mt pt vb r0 g : Nat} (h : CargoIs w W port th mt pt vb r0) (k : But g W W') (hg : w.heap.size ≤ g) (hn : th ≠ g ∧ mt ≠ g ∧ pt ≠ g ∧ r0 ≠ g ∧ vb ≠ g) : CargoIs w W' port th mt pt vb r0 :=
  ⟨h.hth.but k hn.1, h.hmt.but k hn.2.1, h.hpt.but k hn.2.2.1, h.hr0.but k hn.2.2.2.1, k.cell hn.2.2.2.2 h.cv, h.vle, h.ne, h.bel.trans (k.low.mono hg)⟩

def CargoDone (w : World) (port : Int) (e : Ending) (w' : World) : Prop := ∃ (th mt pt vb vc r0 : Nat), e = .returned (.agg #[.slice (some ⟨vb, 0, none⟩) 1 vc, .slice (some ⟨th, 0, none⟩) 1 1, .slice (some ⟨mt, 0, none⟩) 0 0, .slice (some ⟨pt, 0, none⟩) 1 1]) ∧ CargoIs w w' port th mt pt vb r0

/-- the cargo behind its loop -/
def LoopEnd (w : World) (port : Int) (th mt pt cb rx : Nat) (W : World) : Prop := ∃ (vb vc r0 : Nat), CargoIs w W port th mt pt vb r0 ∧ (W.cell? ⟨cb, 0, none⟩ = some (.slice (some ⟨vb, 0, none⟩) 1 vc) ∧ W.cell? ⟨cb, 1, none⟩ = some (.slice (some ⟨th, 0, none⟩) 1 1) ∧ W.cell? ⟨cb, 2, none⟩ = some (.slice (some ⟨mt, 0, none⟩) 0 0) ∧ W.cell? ⟨cb, 3, none⟩ = some (.slice (some ⟨pt, 0, none⟩) 1 1)) ∧ Holds w W rx #[.slice none 0 0, .slice none 0 0, .slice none 0 0, .slice none 0 0] ∧ (th ≠ rx ∧ mt ≠ rx ∧ pt ≠ rx ∧ r0 ≠ rx ∧ vb ≠ rx) ∧ cb ≠ rx

set_option linter.unusedSimpArgs false in
set_option maxHeartbeats 8000000 in
set_option maxRecDepth 20000 in
theorem xcargo_one (d : PlanD) (w : World) (hl : d.lie w) (x : HeadD) (hx : d.hs = [x]) (hxn : x.w.n = 1) (hmn : d.mta.n = 0) (port : Int) (hp : 0 ≤ port ∧ port < 65536) :
    Calls Tryz.prog 38 #[d.v, .int .i64 port] w (CargoDone w port) := by
  have hn1 : d.heads.n = 1 := by rw [← hl.hs.1, hx]; rfl
  obtain ⟨i0, hi0, hz0, hz1, hz2⟩ := info_parts Tryz.infoBool2
  obtain ⟨i1, hi1, hy0, hy1, hy2⟩ := info_parts Tryz.infoNum
  have hmt : ∀ W : World, (Instr.makeSlice 109 (.int .i64 1) (.int .i64 1)).run Tryz.prog W = .ok (.slice (some ⟨W.heap.size, 0, none⟩) 1 1) (W.alloc (.cells #[.bool false] 4)) := fun W => by
    have h := run_make (P := Tryz.prog) W 109 4 i0 _ Tryz.underlying109 hi0 hz0 .i64 .i64 1 1 (by omega) (by omega) (by rw [hz2]; omega) (by omega)
    rw [hz1] at h
    simp only [made_one, show (Value.bool false).cells = #[Value.bool false] from rfl, Int.toNat_one, Nat.mul_one] at h
    exact h
  have hmm : ∀ W : World, (Instr.makeSlice 53 (.int .i64 0) (.int .i64 0)).run Tryz.prog W = .ok (.slice (some ⟨W.heap.size, 0, none⟩) 0 0) (W.alloc (.cells #[] 22)) := fun W => by
    have h := run_make (P := Tryz.prog) W 53 22 i1 _ Tryz.underlying53 hi1 hy0 .i64 .i64 0 0 (by omega) (by omega) (by rw [hy2]; omega) (by omega)
    rw [hy1] at h
    simp only [made_none, show (Value.int .u64 0).cells = #[Value.int .u64 0] from rfl, Int.toNat_zero, Nat.zero_mul] at h
    exact h
  have hmu : ∀ W : World, (Instr.makeSlice 53 (.int .i64 1) (.int .i64 1)).run Tryz.prog W = .ok (.slice (some ⟨W.heap.size, 0, none⟩) 1 1) (W.alloc (.cells #[.int .u64 0] 22)) := fun W => by
    have h := run_make (P := Tryz.prog) W 53 22 i1 _ Tryz.underlying53 hi1 hy0 .i64 .i64 1 1 (by omega) (by omega) (by rw [hy2]; omega) (by omega)
    rw [hy1] at h
    simp only [made_one, show (Value.int .u64 0).cells = #[Value.int .u64 0] from rfl, Int.toNat_one, Nat.mul_one] at h
    exact h
  have hpw : IntKind.u64.wrap port = port := by rw [IntKind.wrap_u64]; omega
  obtain ⟨W2, eW2⟩ : ∃ W2, W2 = (w.alloc (.cells #[.slice d.heads.a 1 d.heads.c, .slice d.mta.a 0 d.mta.c, .slice d.states.a d.states.n d.states.c, .slice d.acts.a d.acts.n d.acts.c, .slice d.tabs.a d.tabs.n d.tabs.c, .slice d.nodes.a d.nodes.n d.nodes.c, .slice d.out.a d.out.n d.out.c] 38)).alloc (.cells #[.slice none 0 0, .slice none 0 0, .slice none 0 0, .slice none 0 0] 111) := ⟨_, rfl⟩
  obtain ⟨pb, hpb⟩ : ∃ b, b = w.heap.size := ⟨_, rfl⟩
  obtain ⟨rx, hrx⟩ : ∃ b, b = w.heap.size + 1 := ⟨_, rfl⟩
  have b2 : Below w.heap.size w W2 := by rw [eW2]; exact bl_alloc (bl_alloc (Below.refl _ _))
  have cp : ∀ (j : Nat) (v : Value), (#[.slice d.heads.a 1 d.heads.c, .slice d.mta.a 0 d.mta.c, .slice d.states.a d.states.n d.states.c, .slice d.acts.a d.acts.n d.acts.c, .slice d.tabs.a d.tabs.n d.tabs.c, .slice d.nodes.a d.nodes.n d.nodes.c, .slice d.out.a d.out.n d.out.c] : Array Value)[j]? = some v → W2.cell? ⟨pb, j, none⟩ = some v := fun j v hv => by rw [eW2, hpb]; exact (World.cell?_alloc_past _ _ _ (by simp)).trans ((World.cell?_alloc_at _ _ _ _ rfl).trans hv)
  have HRX : Hid (Holds w W2 rx #[.slice none 0 0, .slice none 0 0, .slice none 0 0, .slice none 0 0]) := by rw [eW2]; exact Holds.last (by rw [hrx]; simp) (by simp)
  have z0 : W2.cell? ⟨pb, 0, none⟩ = some (.slice d.heads.a 1 d.heads.c) := cp 0 _ rfl
  have z1 : W2.cell? ⟨pb, 1, none⟩ = some (.slice d.mta.a 0 d.mta.c) := cp 1 _ rfl
  have hdv : d.v = .agg #[.slice d.heads.a 1 d.heads.c, .slice d.mta.a 0 d.mta.c, .slice d.states.a d.states.n d.states.c, .slice d.acts.a d.acts.n d.acts.c, .slice d.tabs.a d.tabs.n d.tabs.c, .slice d.nodes.a d.nodes.n d.nodes.c, .slice d.out.a d.out.n d.out.c] := by unfold PlanD.v; rw [hn1, hmn]
  rw [hdv]
  have HL := hid hl
  have HX := hid hx
  have HXN := hid hxn
  have HN1 := hid hn1
  have HB2 := hid b2
  have EW := hid eW2
  have EP := hid hpb
  have ER := hid hrx
  clear hl hx hxn hmn hp hn1 hi0 hz0 hz1 hz2 hi1 hy0 hy1 hy2 eW2 hpb hrx b2 cp hdv
  go_enter Tryz.func38, Tryz.ntmps38
  go_upto_region 1 with fail
  rw [← EW.out, ← ER.out, ← EP.out]
  clear EW
  refine wp_region_cutK (fun a' w' => ∃ th mt pt cb, a' = (⟨#[.agg #[.slice d.heads.a 1 d.heads.c, .slice d.mta.a 0 d.mta.c, .slice d.states.a d.states.n d.states.c, .slice d.acts.a d.acts.n d.acts.c, .slice d.tabs.a d.tabs.n d.tabs.c, .slice d.nodes.a d.nodes.n d.nodes.c, .slice d.out.a d.out.n d.out.c], .int .i64 port, .pointer (some ⟨pb, 0, none⟩), undef, .pointer (some ⟨rx, 0, none⟩), .pointer (some ⟨cb, 0, none⟩), undef, undef, .pointer (some ⟨pb, 0, none⟩), .slice d.heads.a 1 d.heads.c, .int .i64 1, .slice (some ⟨th, 0, none⟩) 1 1, .pointer (some ⟨pb, 1, none⟩), .slice d.mta.a 0 d.mta.c, .int .i64 0, .slice (some ⟨mt, 0, none⟩) 0 0, .int .i64 port, .int .u64 port, .slice (some ⟨pt, 0, none⟩) 1 1, .agg #[.slice none 0 0, .slice (some ⟨th, 0, none⟩) 1 1, .slice (some ⟨mt, 0, none⟩) 0 0, .slice (some ⟨pt, 0, none⟩) 1 1], undef, undef, undef, undef, undef, undef, undef, undef, undef, undef, undef, undef, undef, undef, undef, undef, undef, undef], []⟩ : Act) ∧ Four W2 w' port th mt pt cb) 13 (by kernel_rfl) (by kernel_rfl) ?_ ?_
  · refine wpAny_of_held (S := (fun w' => w'.cell? ⟨pb, 0, none⟩ = some (.slice d.heads.a 1 d.heads.c) ∧ w'.cell? ⟨pb, 1, none⟩ = some (.slice d.mta.a 0 d.mta.c))) _ _ _ _ ?_
    have hHeld : W2.drew.cell? ⟨pb, 0, none⟩ = some (.slice d.heads.a 1 d.heads.c) ∧ W2.drew.cell? ⟨pb, 1, none⟩ = some (.slice d.mta.a 0 d.mta.c) := ⟨z0, z1⟩
    refine wpAnyH_take (i := 0) (v := ?_) (drop_at rfl) (by kernel_rfl) (by kernel_rfl) (by kernel_rfl) (fun _ _ _ h => h) (Or.inl ⟨by rfl, ?_⟩) hHeld ?_
    rotate_left
    · intro w0 hSw
      try dsimp only at hSw
      go_simp
      try with_reducible rfl
    try simp only [Act.put, List.setIfInBounds_toArray, List.set_cons_zero, List.set_cons_succ]
    refine wpAnyH_take (i := 1) (v := ?_) (drop_at rfl) (by kernel_rfl) (by kernel_rfl) (by kernel_rfl) (fun _ _ _ h => h) (Or.inl ⟨by rfl, ?_⟩) hHeld ?_
    rotate_left
    · intro w0 hSw
      try dsimp only at hSw
      go_simp
      try with_reducible rfl
    try simp only [Act.put, List.setIfInBounds_toArray, List.set_cons_zero, List.set_cons_succ]
    refine wpAnyH_take (i := 2) (v := ?_) (drop_at rfl) (by kernel_rfl) (by kernel_rfl) (by kernel_rfl) (fun _ _ _ h => h) (Or.inl ⟨by rfl, ?_⟩) hHeld ?_
    rotate_left
    · intro w0 hSw
      try dsimp only at hSw
      go_simp
      try with_reducible rfl
    try simp only [Act.put, List.setIfInBounds_toArray, List.set_cons_zero, List.set_cons_succ]
    refine wpAnyH_take (i := 4) (v := ?_) (drop_at rfl) (by kernel_rfl) (by kernel_rfl) (by kernel_rfl) (fun _ _ _ h => h) (Or.inl ⟨by rfl, ?_⟩) hHeld ?_
    rotate_left
    · intro w0 hSw
      try dsimp only at hSw
      go_simp
      try with_reducible rfl
    try simp only [Act.put, List.setIfInBounds_toArray, List.set_cons_zero, List.set_cons_succ]
    refine wpAnyH_take (i := 5) (v := ?_) (drop_at rfl) (by kernel_rfl) (by kernel_rfl) (by kernel_rfl) (fun _ _ _ h => h) (Or.inl ⟨by rfl, ?_⟩) hHeld ?_
    rotate_left
    · intro w0 hSw
      try dsimp only at hSw
      go_simp
      try with_reducible rfl
    try simp only [Act.put, List.setIfInBounds_toArray, List.set_cons_zero, List.set_cons_succ]
    refine wpAnyH_take (i := 6) (v := ?_) (drop_at rfl) (by kernel_rfl) (by kernel_rfl) (by kernel_rfl) (fun _ _ _ h => h) (Or.inl ⟨by rfl, ?_⟩) hHeld ?_
    rotate_left
    · intro w0 hSw
      try dsimp only at hSw
      go_simp
      try with_reducible rfl
    try simp only [Act.put, List.setIfInBounds_toArray, List.set_cons_zero, List.set_cons_succ]
    refine wpAnyH_take (i := 8) (v := ?_) (drop_at rfl) (by kernel_rfl) (by kernel_rfl) (by kernel_rfl) (fun _ _ _ h => h) (Or.inl ⟨by rfl, ?_⟩) hHeld ?_
    rotate_left
    · intro w0 hSw
      try dsimp only at hSw
      go_simp
      try with_reducible rfl
    try simp only [Act.put, List.setIfInBounds_toArray, List.set_cons_zero, List.set_cons_succ]
    refine wpAnyH_take (i := 9) (v := ?_) (drop_at rfl) (by kernel_rfl) (by kernel_rfl) (by kernel_rfl) (fun _ _ _ h => h) (Or.inl ⟨by rfl, ?_⟩) hHeld ?_
    rotate_left
    · intro w0 hSw
      try dsimp only at hSw
      go_simp
      try with_reducible rfl
    try simp only [Act.put, List.setIfInBounds_toArray, List.set_cons_zero, List.set_cons_succ]
    refine wpAnyH_ready (rs := [3, 7, 10, 12]) (by kernel_rfl) (by simp) ?_
    refine AllReadyH.cons (drop_at rfl) (fun K hK => ?_) (AllReadyH.cons (drop_at rfl) (fun K hK => ?_) (AllReadyH.cons (drop_at rfl) (fun K hK => ?_) (AllReadyH.cons (drop_at rfl) (fun K hK => ?_) AllReadyH.nil)))
    · go_simp
      refine hK.out _ _ ⟨cell_keep z0 (bl_alloc (Below.refl W2.heap.size W2)).drew, cell_keep z1 (bl_alloc (Below.refl W2.heap.size W2)).drew⟩ (fun hHeld => ?_)
      clear hK K
      try simp only [Act.put, List.setIfInBounds_toArray, List.set_cons_zero, List.set_cons_succ]
      refine wpAnyH_ready (rs := [7, 10, 12]) (by kernel_rfl) (by simp) ?_
      refine AllReadyH.cons (drop_at rfl) (fun K hK => ?_) (AllReadyH.cons (drop_at rfl) (fun K hK => ?_) (AllReadyH.cons (drop_at rfl) (fun K hK => ?_) AllReadyH.nil))
      · go_simp
        refine hK.out _ _ ⟨cell_keep z0 (bl_alloc (bl_alloc (Below.refl W2.heap.size W2))).drew, cell_keep z1 (bl_alloc (bl_alloc (Below.refl W2.heap.size W2))).drew⟩ (fun hHeld => ?_)
        clear hK K
        try simp only [Act.put, List.setIfInBounds_toArray, List.set_cons_zero, List.set_cons_succ]
        refine wpAnyH_ready (rs := [10, 12]) (by kernel_rfl) (by simp) ?_
        refine AllReadyH.cons (drop_at rfl) (fun K hK => ?_) (AllReadyH.cons (drop_at rfl) (fun K hK => ?_) AllReadyH.nil)
        · go_simp
          refine hK.out _ _ ⟨cell_keep z0 (bl_alloc (bl_alloc (bl_alloc (Below.refl W2.heap.size W2)))).drew, cell_keep z1 (bl_alloc (bl_alloc (bl_alloc (Below.refl W2.heap.size W2)))).drew⟩ (fun hHeld => ?_)
          clear hK K
          try simp only [Act.put, List.setIfInBounds_toArray, List.set_cons_zero, List.set_cons_succ]
          refine wpAnyH_take (i := 11) (v := ?_) (drop_at rfl) (by kernel_rfl) (by kernel_rfl) (by kernel_rfl) (fun _ _ _ h => h) (Or.inl ⟨by rfl, ?_⟩) hHeld ?_
          rotate_left
          · intro w0 hSw
            try dsimp only at hSw
            go_simp
            try with_reducible rfl
          try simp only [Act.put, List.setIfInBounds_toArray, List.set_cons_zero, List.set_cons_succ]
          refine wpAnyH_ready (rs := [12]) (by kernel_rfl) (by simp) ?_
          refine AllReadyH.cons (drop_at rfl) (fun K hK => ?_) AllReadyH.nil
          · go_simp
            refine hK.out _ _ ⟨cell_keep z0 (bl_alloc (bl_alloc (bl_alloc (bl_alloc (Below.refl W2.heap.size W2))))).drew, cell_keep z1 (bl_alloc (bl_alloc (bl_alloc (bl_alloc (Below.refl W2.heap.size W2))))).drew⟩ (fun hHeld => ?_)
            clear hK K
            try simp only [Act.put, List.setIfInBounds_toArray, List.set_cons_zero, List.set_cons_succ]
            refine wpAnyH_done (by kernel_rfl) ?_ _
            exact ⟨_, _, _, _, rfl, (Holds.past (Holds.past (Holds.past (Holds.last (by simp) (by simp <;> omega))))).drew, (Holds.past (Holds.past (Holds.last (by simp) (by simp <;> omega)))).drew, (Holds.past (Holds.last (by simp) (by simp <;> omega))).drew, (Holds.last (by simp) (by simp <;> omega)).drew, ⟨by omega, by omega, by omega, by omega, by omega, by omega⟩, (bl_alloc (bl_alloc (bl_alloc (bl_alloc (Below.refl W2.heap.size W2))))).drew⟩
        · go_simp
          refine hK.out _ _ ⟨cell_keep z0 (bl_alloc (bl_alloc (bl_alloc (Below.refl W2.heap.size W2)))).drew, cell_keep z1 (bl_alloc (bl_alloc (bl_alloc (Below.refl W2.heap.size W2)))).drew⟩ (fun hHeld => ?_)
          clear hK K
          try simp only [Act.put, List.setIfInBounds_toArray, List.set_cons_zero, List.set_cons_succ]
          refine wpAnyH_ready (rs := [10]) (by kernel_rfl) (by simp) ?_
          refine AllReadyH.cons (drop_at rfl) (fun K hK => ?_) AllReadyH.nil
          · go_simp
            refine hK.out _ _ ⟨cell_keep z0 (bl_alloc (bl_alloc (bl_alloc (bl_alloc (Below.refl W2.heap.size W2))))).drew, cell_keep z1 (bl_alloc (bl_alloc (bl_alloc (bl_alloc (Below.refl W2.heap.size W2))))).drew⟩ (fun hHeld => ?_)
            clear hK K
            try simp only [Act.put, List.setIfInBounds_toArray, List.set_cons_zero, List.set_cons_succ]
            refine wpAnyH_take (i := 11) (v := ?_) (drop_at rfl) (by kernel_rfl) (by kernel_rfl) (by kernel_rfl) (fun _ _ _ h => h) (Or.inl ⟨by rfl, ?_⟩) hHeld ?_
            rotate_left
            · intro w0 hSw
              try dsimp only at hSw
              go_simp
              try with_reducible rfl
            try simp only [Act.put, List.setIfInBounds_toArray, List.set_cons_zero, List.set_cons_succ]
            refine wpAnyH_done (by kernel_rfl) ?_ _
            exact ⟨_, _, _, _, rfl, (Holds.past (Holds.past (Holds.past (Holds.last (by simp) (by simp <;> omega))))).drew, (Holds.past (Holds.past (Holds.last (by simp) (by simp <;> omega)))).drew, (Holds.last (by simp) (by simp <;> omega)).drew, (Holds.past (Holds.last (by simp) (by simp <;> omega))).drew, ⟨by omega, by omega, by omega, by omega, by omega, by omega⟩, (bl_alloc (bl_alloc (bl_alloc (bl_alloc (Below.refl W2.heap.size W2))))).drew⟩
      · go_simp
        refine hK.out _ _ ⟨cell_keep z0 (bl_alloc (bl_alloc (Below.refl W2.heap.size W2))).drew, cell_keep z1 (bl_alloc (bl_alloc (Below.refl W2.heap.size W2))).drew⟩ (fun hHeld => ?_)
        clear hK K
        try simp only [Act.put, List.setIfInBounds_toArray, List.set_cons_zero, List.set_cons_succ]
        refine wpAnyH_ready (rs := [7, 12]) (by kernel_rfl) (by simp) ?_
        refine AllReadyH.cons (drop_at rfl) (fun K hK => ?_) (AllReadyH.cons (drop_at rfl) (fun K hK => ?_) AllReadyH.nil)
        · go_simp
          refine hK.out _ _ ⟨cell_keep z0 (bl_alloc (bl_alloc (bl_alloc (Below.refl W2.heap.size W2)))).drew, cell_keep z1 (bl_alloc (bl_alloc (bl_alloc (Below.refl W2.heap.size W2)))).drew⟩ (fun hHeld => ?_)
          clear hK K
          try simp only [Act.put, List.setIfInBounds_toArray, List.set_cons_zero, List.set_cons_succ]
          refine wpAnyH_take (i := 11) (v := ?_) (drop_at rfl) (by kernel_rfl) (by kernel_rfl) (by kernel_rfl) (fun _ _ _ h => h) (Or.inl ⟨by rfl, ?_⟩) hHeld ?_
          rotate_left
          · intro w0 hSw
            try dsimp only at hSw
            go_simp
            try with_reducible rfl
          try simp only [Act.put, List.setIfInBounds_toArray, List.set_cons_zero, List.set_cons_succ]
          refine wpAnyH_ready (rs := [12]) (by kernel_rfl) (by simp) ?_
          refine AllReadyH.cons (drop_at rfl) (fun K hK => ?_) AllReadyH.nil
          · go_simp
            refine hK.out _ _ ⟨cell_keep z0 (bl_alloc (bl_alloc (bl_alloc (bl_alloc (Below.refl W2.heap.size W2))))).drew, cell_keep z1 (bl_alloc (bl_alloc (bl_alloc (bl_alloc (Below.refl W2.heap.size W2))))).drew⟩ (fun hHeld => ?_)
            clear hK K
            try simp only [Act.put, List.setIfInBounds_toArray, List.set_cons_zero, List.set_cons_succ]
            refine wpAnyH_done (by kernel_rfl) ?_ _
            exact ⟨_, _, _, _, rfl, (Holds.past (Holds.past (Holds.past (Holds.last (by simp) (by simp <;> omega))))).drew, (Holds.past (Holds.last (by simp) (by simp <;> omega))).drew, (Holds.past (Holds.past (Holds.last (by simp) (by simp <;> omega)))).drew, (Holds.last (by simp) (by simp <;> omega)).drew, ⟨by omega, by omega, by omega, by omega, by omega, by omega⟩, (bl_alloc (bl_alloc (bl_alloc (bl_alloc (Below.refl W2.heap.size W2))))).drew⟩
        · go_simp
          refine hK.out _ _ ⟨cell_keep z0 (bl_alloc (bl_alloc (bl_alloc (Below.refl W2.heap.size W2)))).drew, cell_keep z1 (bl_alloc (bl_alloc (bl_alloc (Below.refl W2.heap.size W2)))).drew⟩ (fun hHeld => ?_)
          clear hK K
          try simp only [Act.put, List.setIfInBounds_toArray, List.set_cons_zero, List.set_cons_succ]
          refine wpAnyH_ready (rs := [7]) (by kernel_rfl) (by simp) ?_
          refine AllReadyH.cons (drop_at rfl) (fun K hK => ?_) AllReadyH.nil
          · go_simp
            refine hK.out _ _ ⟨cell_keep z0 (bl_alloc (bl_alloc (bl_alloc (bl_alloc (Below.refl W2.heap.size W2))))).drew, cell_keep z1 (bl_alloc (bl_alloc (bl_alloc (bl_alloc (Below.refl W2.heap.size W2))))).drew⟩ (fun hHeld => ?_)
            clear hK K
            try simp only [Act.put, List.setIfInBounds_toArray, List.set_cons_zero, List.set_cons_succ]
            refine wpAnyH_take (i := 11) (v := ?_) (drop_at rfl) (by kernel_rfl) (by kernel_rfl) (by kernel_rfl) (fun _ _ _ h => h) (Or.inl ⟨by rfl, ?_⟩) hHeld ?_
            rotate_left
            · intro w0 hSw
              try dsimp only at hSw
              go_simp
              try with_reducible rfl
            try simp only [Act.put, List.setIfInBounds_toArray, List.set_cons_zero, List.set_cons_succ]
            refine wpAnyH_done (by kernel_rfl) ?_ _
            exact ⟨_, _, _, _, rfl, (Holds.past (Holds.past (Holds.past (Holds.last (by simp) (by simp <;> omega))))).drew, (Holds.last (by simp) (by simp <;> omega)).drew, (Holds.past (Holds.past (Holds.last (by simp) (by simp <;> omega)))).drew, (Holds.past (Holds.last (by simp) (by simp <;> omega))).drew, ⟨by omega, by omega, by omega, by omega, by omega, by omega⟩, (bl_alloc (bl_alloc (bl_alloc (bl_alloc (Below.refl W2.heap.size W2))))).drew⟩
      · go_simp
        refine hK.out _ _ ⟨cell_keep z0 (bl_alloc (bl_alloc (Below.refl W2.heap.size W2))).drew, cell_keep z1 (bl_alloc (bl_alloc (Below.refl W2.heap.size W2))).drew⟩ (fun hHeld => ?_)
        clear hK K
        try simp only [Act.put, List.setIfInBounds_toArray, List.set_cons_zero, List.set_cons_succ]
        refine wpAnyH_ready (rs := [7, 10]) (by kernel_rfl) (by simp) ?_
        refine AllReadyH.cons (drop_at rfl) (fun K hK => ?_) (AllReadyH.cons (drop_at rfl) (fun K hK => ?_) AllReadyH.nil)
        · go_simp
          refine hK.out _ _ ⟨cell_keep z0 (bl_alloc (bl_alloc (bl_alloc (Below.refl W2.heap.size W2)))).drew, cell_keep z1 (bl_alloc (bl_alloc (bl_alloc (Below.refl W2.heap.size W2)))).drew⟩ (fun hHeld => ?_)
          clear hK K
          try simp only [Act.put, List.setIfInBounds_toArray, List.set_cons_zero, List.set_cons_succ]
          refine wpAnyH_ready (rs := [10]) (by kernel_rfl) (by simp) ?_
          refine AllReadyH.cons (drop_at rfl) (fun K hK => ?_) AllReadyH.nil
          · go_simp
            refine hK.out _ _ ⟨cell_keep z0 (bl_alloc (bl_alloc (bl_alloc (bl_alloc (Below.refl W2.heap.size W2))))).drew, cell_keep z1 (bl_alloc (bl_alloc (bl_alloc (bl_alloc (Below.refl W2.heap.size W2))))).drew⟩ (fun hHeld => ?_)
            clear hK K
            try simp only [Act.put, List.setIfInBounds_toArray, List.set_cons_zero, List.set_cons_succ]
            refine wpAnyH_take (i := 11) (v := ?_) (drop_at rfl) (by kernel_rfl) (by kernel_rfl) (by kernel_rfl) (fun _ _ _ h => h) (Or.inl ⟨by rfl, ?_⟩) hHeld ?_
            rotate_left
            · intro w0 hSw
              try dsimp only at hSw
              go_simp
              try with_reducible rfl
            try simp only [Act.put, List.setIfInBounds_toArray, List.set_cons_zero, List.set_cons_succ]
            refine wpAnyH_done (by kernel_rfl) ?_ _
            exact ⟨_, _, _, _, rfl, (Holds.past (Holds.past (Holds.past (Holds.last (by simp) (by simp <;> omega))))).drew, (Holds.past (Holds.last (by simp) (by simp <;> omega))).drew, (Holds.last (by simp) (by simp <;> omega)).drew, (Holds.past (Holds.past (Holds.last (by simp) (by simp <;> omega)))).drew, ⟨by omega, by omega, by omega, by omega, by omega, by omega⟩, (bl_alloc (bl_alloc (bl_alloc (bl_alloc (Below.refl W2.heap.size W2))))).drew⟩
        · go_simp
          refine hK.out _ _ ⟨cell_keep z0 (bl_alloc (bl_alloc (bl_alloc (Below.refl W2.heap.size W2)))).drew, cell_keep z1 (bl_alloc (bl_alloc (bl_alloc (Below.refl W2.heap.size W2)))).drew⟩ (fun hHeld => ?_)
          clear hK K
          try simp only [Act.put, List.setIfInBounds_toArray, List.set_cons_zero, List.set_cons_succ]
          refine wpAnyH_ready (rs := [7]) (by kernel_rfl) (by simp) ?_
          refine AllReadyH.cons (drop_at rfl) (fun K hK => ?_) AllReadyH.nil
          · go_simp
            refine hK.out _ _ ⟨cell_keep z0 (bl_alloc (bl_alloc (bl_alloc (bl_alloc (Below.refl W2.heap.size W2))))).drew, cell_keep z1 (bl_alloc (bl_alloc (bl_alloc (bl_alloc (Below.refl W2.heap.size W2))))).drew⟩ (fun hHeld => ?_)
            clear hK K
            try simp only [Act.put, List.setIfInBounds_toArray, List.set_cons_zero, List.set_cons_succ]
            refine wpAnyH_take (i := 11) (v := ?_) (drop_at rfl) (by kernel_rfl) (by kernel_rfl) (by kernel_rfl) (fun _ _ _ h => h) (Or.inl ⟨by rfl, ?_⟩) hHeld ?_
            rotate_left
            · intro w0 hSw
              try dsimp only at hSw
              go_simp
              try with_reducible rfl
            try simp only [Act.put, List.setIfInBounds_toArray, List.set_cons_zero, List.set_cons_succ]
            refine wpAnyH_done (by kernel_rfl) ?_ _
            exact ⟨_, _, _, _, rfl, (Holds.past (Holds.past (Holds.past (Holds.last (by simp) (by simp <;> omega))))).drew, (Holds.last (by simp) (by simp <;> omega)).drew, (Holds.past (Holds.last (by simp) (by simp <;> omega))).drew, (Holds.past (Holds.past (Holds.last (by simp) (by simp <;> omega)))).drew, ⟨by omega, by omega, by omega, by omega, by omega, by omega⟩, (bl_alloc (bl_alloc (bl_alloc (bl_alloc (Below.refl W2.heap.size W2))))).drew⟩
    · go_simp
      refine hK.out _ _ ⟨cell_keep z0 (bl_alloc (Below.refl W2.heap.size W2)).drew, cell_keep z1 (bl_alloc (Below.refl W2.heap.size W2)).drew⟩ (fun hHeld => ?_)
      clear hK K
      try simp only [Act.put, List.setIfInBounds_toArray, List.set_cons_zero, List.set_cons_succ]
      refine wpAnyH_ready (rs := [3, 10, 12]) (by kernel_rfl) (by simp) ?_
      refine AllReadyH.cons (drop_at rfl) (fun K hK => ?_) (AllReadyH.cons (drop_at rfl) (fun K hK => ?_) (AllReadyH.cons (drop_at rfl) (fun K hK => ?_) AllReadyH.nil))
      · go_simp
        refine hK.out _ _ ⟨cell_keep z0 (bl_alloc (bl_alloc (Below.refl W2.heap.size W2))).drew, cell_keep z1 (bl_alloc (bl_alloc (Below.refl W2.heap.size W2))).drew⟩ (fun hHeld => ?_)
        clear hK K
        try simp only [Act.put, List.setIfInBounds_toArray, List.set_cons_zero, List.set_cons_succ]
        refine wpAnyH_ready (rs := [10, 12]) (by kernel_rfl) (by simp) ?_
        refine AllReadyH.cons (drop_at rfl) (fun K hK => ?_) (AllReadyH.cons (drop_at rfl) (fun K hK => ?_) AllReadyH.nil)
        · go_simp
          refine hK.out _ _ ⟨cell_keep z0 (bl_alloc (bl_alloc (bl_alloc (Below.refl W2.heap.size W2)))).drew, cell_keep z1 (bl_alloc (bl_alloc (bl_alloc (Below.refl W2.heap.size W2)))).drew⟩ (fun hHeld => ?_)
          clear hK K
          try simp only [Act.put, List.setIfInBounds_toArray, List.set_cons_zero, List.set_cons_succ]
          refine wpAnyH_take (i := 11) (v := ?_) (drop_at rfl) (by kernel_rfl) (by kernel_rfl) (by kernel_rfl) (fun _ _ _ h => h) (Or.inl ⟨by rfl, ?_⟩) hHeld ?_
          rotate_left
          · intro w0 hSw
            try dsimp only at hSw
            go_simp
            try with_reducible rfl
          try simp only [Act.put, List.setIfInBounds_toArray, List.set_cons_zero, List.set_cons_succ]
          refine wpAnyH_ready (rs := [12]) (by kernel_rfl) (by simp) ?_
          refine AllReadyH.cons (drop_at rfl) (fun K hK => ?_) AllReadyH.nil
          · go_simp
            refine hK.out _ _ ⟨cell_keep z0 (bl_alloc (bl_alloc (bl_alloc (bl_alloc (Below.refl W2.heap.size W2))))).drew, cell_keep z1 (bl_alloc (bl_alloc (bl_alloc (bl_alloc (Below.refl W2.heap.size W2))))).drew⟩ (fun hHeld => ?_)
            clear hK K
            try simp only [Act.put, List.setIfInBounds_toArray, List.set_cons_zero, List.set_cons_succ]
            refine wpAnyH_done (by kernel_rfl) ?_ _
            exact ⟨_, _, _, _, rfl, (Holds.past (Holds.past (Holds.last (by simp) (by simp <;> omega)))).drew, (Holds.past (Holds.past (Holds.past (Holds.last (by simp) (by simp <;> omega))))).drew, (Holds.past (Holds.last (by simp) (by simp <;> omega))).drew, (Holds.last (by simp) (by simp <;> omega)).drew, ⟨by omega, by omega, by omega, by omega, by omega, by omega⟩, (bl_alloc (bl_alloc (bl_alloc (bl_alloc (Below.refl W2.heap.size W2))))).drew⟩
        · go_simp
          refine hK.out _ _ ⟨cell_keep z0 (bl_alloc (bl_alloc (bl_alloc (Below.refl W2.heap.size W2)))).drew, cell_keep z1 (bl_alloc (bl_alloc (bl_alloc (Below.refl W2.heap.size W2)))).drew⟩ (fun hHeld => ?_)
          clear hK K
          try simp only [Act.put, List.setIfInBounds_toArray, List.set_cons_zero, List.set_cons_succ]
          refine wpAnyH_ready (rs := [10]) (by kernel_rfl) (by simp) ?_
          refine AllReadyH.cons (drop_at rfl) (fun K hK => ?_) AllReadyH.nil
          · go_simp
            refine hK.out _ _ ⟨cell_keep z0 (bl_alloc (bl_alloc (bl_alloc (bl_alloc (Below.refl W2.heap.size W2))))).drew, cell_keep z1 (bl_alloc (bl_alloc (bl_alloc (bl_alloc (Below.refl W2.heap.size W2))))).drew⟩ (fun hHeld => ?_)
            clear hK K
            try simp only [Act.put, List.setIfInBounds_toArray, List.set_cons_zero, List.set_cons_succ]
            refine wpAnyH_take (i := 11) (v := ?_) (drop_at rfl) (by kernel_rfl) (by kernel_rfl) (by kernel_rfl) (fun _ _ _ h => h) (Or.inl ⟨by rfl, ?_⟩) hHeld ?_
            rotate_left
            · intro w0 hSw
              try dsimp only at hSw
              go_simp
              try with_reducible rfl
            try simp only [Act.put, List.setIfInBounds_toArray, List.set_cons_zero, List.set_cons_succ]
            refine wpAnyH_done (by kernel_rfl) ?_ _
            exact ⟨_, _, _, _, rfl, (Holds.past (Holds.past (Holds.last (by simp) (by simp <;> omega)))).drew, (Holds.past (Holds.past (Holds.past (Holds.last (by simp) (by simp <;> omega))))).drew, (Holds.last (by simp) (by simp <;> omega)).drew, (Holds.past (Holds.last (by simp) (by simp <;> omega))).drew, ⟨by omega, by omega, by omega, by omega, by omega, by omega⟩, (bl_alloc (bl_alloc (bl_alloc (bl_alloc (Below.refl W2.heap.size W2))))).drew⟩
      · go_simp
        refine hK.out _ _ ⟨cell_keep z0 (bl_alloc (bl_alloc (Below.refl W2.heap.size W2))).drew, cell_keep z1 (bl_alloc (bl_alloc (Below.refl W2.heap.size W2))).drew⟩ (fun hHeld => ?_)
        clear hK K
        try simp only [Act.put, List.setIfInBounds_toArray, List.set_cons_zero, List.set_cons_succ]
        refine wpAnyH_ready (rs := [3, 12]) (by kernel_rfl) (by simp) ?_
        refine AllReadyH.cons (drop_at rfl) (fun K hK => ?_) (AllReadyH.cons (drop_at rfl) (fun K hK => ?_) AllReadyH.nil)
        · go_simp
          refine hK.out _ _ ⟨cell_keep z0 (bl_alloc (bl_alloc (bl_alloc (Below.refl W2.heap.size W2)))).drew, cell_keep z1 (bl_alloc (bl_alloc (bl_alloc (Below.refl W2.heap.size W2)))).drew⟩ (fun hHeld => ?_)
          clear hK K
          try simp only [Act.put, List.setIfInBounds_toArray, List.set_cons_zero, List.set_cons_succ]
          refine wpAnyH_take (i := 11) (v := ?_) (drop_at rfl) (by kernel_rfl) (by kernel_rfl) (by kernel_rfl) (fun _ _ _ h => h) (Or.inl ⟨by rfl, ?_⟩) hHeld ?_
          rotate_left
          · intro w0 hSw
            try dsimp only at hSw
            go_simp
            try with_reducible rfl
          try simp only [Act.put, List.setIfInBounds_toArray, List.set_cons_zero, List.set_cons_succ]
          refine wpAnyH_ready (rs := [12]) (by kernel_rfl) (by simp) ?_
          refine AllReadyH.cons (drop_at rfl) (fun K hK => ?_) AllReadyH.nil
          · go_simp
            refine hK.out _ _ ⟨cell_keep z0 (bl_alloc (bl_alloc (bl_alloc (bl_alloc (Below.refl W2.heap.size W2))))).drew, cell_keep z1 (bl_alloc (bl_alloc (bl_alloc (bl_alloc (Below.refl W2.heap.size W2))))).drew⟩ (fun hHeld => ?_)
            clear hK K
            try simp only [Act.put, List.setIfInBounds_toArray, List.set_cons_zero, List.set_cons_succ]
            refine wpAnyH_done (by kernel_rfl) ?_ _
            exact ⟨_, _, _, _, rfl, (Holds.past (Holds.last (by simp) (by simp <;> omega))).drew, (Holds.past (Holds.past (Holds.past (Holds.last (by simp) (by simp <;> omega))))).drew, (Holds.past (Holds.past (Holds.last (by simp) (by simp <;> omega)))).drew, (Holds.last (by simp) (by simp <;> omega)).drew, ⟨by omega, by omega, by omega, by omega, by omega, by omega⟩, (bl_alloc (bl_alloc (bl_alloc (bl_alloc (Below.refl W2.heap.size W2))))).drew⟩
        · go_simp
          refine hK.out _ _ ⟨cell_keep z0 (bl_alloc (bl_alloc (bl_alloc (Below.refl W2.heap.size W2)))).drew, cell_keep z1 (bl_alloc (bl_alloc (bl_alloc (Below.refl W2.heap.size W2)))).drew⟩ (fun hHeld => ?_)
          clear hK K
          try simp only [Act.put, List.setIfInBounds_toArray, List.set_cons_zero, List.set_cons_succ]
          refine wpAnyH_ready (rs := [3]) (by kernel_rfl) (by simp) ?_
          refine AllReadyH.cons (drop_at rfl) (fun K hK => ?_) AllReadyH.nil
          · go_simp
            refine hK.out _ _ ⟨cell_keep z0 (bl_alloc (bl_alloc (bl_alloc (bl_alloc (Below.refl W2.heap.size W2))))).drew, cell_keep z1 (bl_alloc (bl_alloc (bl_alloc (bl_alloc (Below.refl W2.heap.size W2))))).drew⟩ (fun hHeld => ?_)
            clear hK K
            try simp only [Act.put, List.setIfInBounds_toArray, List.set_cons_zero, List.set_cons_succ]
            refine wpAnyH_take (i := 11) (v := ?_) (drop_at rfl) (by kernel_rfl) (by kernel_rfl) (by kernel_rfl) (fun _ _ _ h => h) (Or.inl ⟨by rfl, ?_⟩) hHeld ?_
            rotate_left
            · intro w0 hSw
              try dsimp only at hSw
              go_simp
              try with_reducible rfl
            try simp only [Act.put, List.setIfInBounds_toArray, List.set_cons_zero, List.set_cons_succ]
            refine wpAnyH_done (by kernel_rfl) ?_ _
            exact ⟨_, _, _, _, rfl, (Holds.last (by simp) (by simp <;> omega)).drew, (Holds.past (Holds.past (Holds.past (Holds.last (by simp) (by simp <;> omega))))).drew, (Holds.past (Holds.past (Holds.last (by simp) (by simp <;> omega)))).drew, (Holds.past (Holds.last (by simp) (by simp <;> omega))).drew, ⟨by omega, by omega, by omega, by omega, by omega, by omega⟩, (bl_alloc (bl_alloc (bl_alloc (bl_alloc (Below.refl W2.heap.size W2))))).drew⟩
      · go_simp
        refine hK.out _ _ ⟨cell_keep z0 (bl_alloc (bl_alloc (Below.refl W2.heap.size W2))).drew, cell_keep z1 (bl_alloc (bl_alloc (Below.refl W2.heap.size W2))).drew⟩ (fun hHeld => ?_)
        clear hK K
        try simp only [Act.put, List.setIfInBounds_toArray, List.set_cons_zero, List.set_cons_succ]
        refine wpAnyH_ready (rs := [3, 10]) (by kernel_rfl) (by simp) ?_
        refine AllReadyH.cons (drop_at rfl) (fun K hK => ?_) (AllReadyH.cons (drop_at rfl) (fun K hK => ?_) AllReadyH.nil)
        · go_simp
          refine hK.out _ _ ⟨cell_keep z0 (bl_alloc (bl_alloc (bl_alloc (Below.refl W2.heap.size W2)))).drew, cell_keep z1 (bl_alloc (bl_alloc (bl_alloc (Below.refl W2.heap.size W2)))).drew⟩ (fun hHeld => ?_)
          clear hK K
          try simp only [Act.put, List.setIfInBounds_toArray, List.set_cons_zero, List.set_cons_succ]
          refine wpAnyH_ready (rs := [10]) (by kernel_rfl) (by simp) ?_
          refine AllReadyH.cons (drop_at rfl) (fun K hK => ?_) AllReadyH.nil
          · go_simp
            refine hK.out _ _ ⟨cell_keep z0 (bl_alloc (bl_alloc (bl_alloc (bl_alloc (Below.refl W2.heap.size W2))))).drew, cell_keep z1 (bl_alloc (bl_alloc (bl_alloc (bl_alloc (Below.refl W2.heap.size W2))))).drew⟩ (fun hHeld => ?_)
            clear hK K
            try simp only [Act.put, List.setIfInBounds_toArray, List.set_cons_zero, List.set_cons_succ]
            refine wpAnyH_take (i := 11) (v := ?_) (drop_at rfl) (by kernel_rfl) (by kernel_rfl) (by kernel_rfl) (fun _ _ _ h => h) (Or.inl ⟨by rfl, ?_⟩) hHeld ?_
            rotate_left
            · intro w0 hSw
              try dsimp only at hSw
              go_simp
              try with_reducible rfl
            try simp only [Act.put, List.setIfInBounds_toArray, List.set_cons_zero, List.set_cons_succ]
            refine wpAnyH_done (by kernel_rfl) ?_ _
            exact ⟨_, _, _, _, rfl, (Holds.past (Holds.last (by simp) (by simp <;> omega))).drew, (Holds.past (Holds.past (Holds.past (Holds.last (by simp) (by simp <;> omega))))).drew, (Holds.last (by simp) (by simp <;> omega)).drew, (Holds.past (Holds.past (Holds.last (by simp) (by simp <;> omega)))).drew, ⟨by omega, by omega, by omega, by omega, by omega, by omega⟩, (bl_alloc (bl_alloc (bl_alloc (bl_alloc (Below.refl W2.heap.size W2))))).drew⟩
        · go_simp
          refine hK.out _ _ ⟨cell_keep z0 (bl_alloc (bl_alloc (bl_alloc (Below.refl W2.heap.size W2)))).drew, cell_keep z1 (bl_alloc (bl_alloc (bl_alloc (Below.refl W2.heap.size W2)))).drew⟩ (fun hHeld => ?_)
          clear hK K
          try simp only [Act.put, List.setIfInBounds_toArray, List.set_cons_zero, List.set_cons_succ]
          refine wpAnyH_ready (rs := [3]) (by kernel_rfl) (by simp) ?_
          refine AllReadyH.cons (drop_at rfl) (fun K hK => ?_) AllReadyH.nil
          · go_simp
            refine hK.out _ _ ⟨cell_keep z0 (bl_alloc (bl_alloc (bl_alloc (bl_alloc (Below.refl W2.heap.size W2))))).drew, cell_keep z1 (bl_alloc (bl_alloc (bl_alloc (bl_alloc (Below.refl W2.heap.size W2))))).drew⟩ (fun hHeld => ?_)
            clear hK K
            try simp only [Act.put, List.setIfInBounds_toArray, List.set_cons_zero, List.set_cons_succ]
            refine wpAnyH_take (i := 11) (v := ?_) (drop_at rfl) (by kernel_rfl) (by kernel_rfl) (by kernel_rfl) (fun _ _ _ h => h) (Or.inl ⟨by rfl, ?_⟩) hHeld ?_
            rotate_left
            · intro w0 hSw
              try dsimp only at hSw
              go_simp
              try with_reducible rfl
            try simp only [Act.put, List.setIfInBounds_toArray, List.set_cons_zero, List.set_cons_succ]
            refine wpAnyH_done (by kernel_rfl) ?_ _
            exact ⟨_, _, _, _, rfl, (Holds.last (by simp) (by simp <;> omega)).drew, (Holds.past (Holds.past (Holds.past (Holds.last (by simp) (by simp <;> omega))))).drew, (Holds.past (Holds.last (by simp) (by simp <;> omega))).drew, (Holds.past (Holds.past (Holds.last (by simp) (by simp <;> omega)))).drew, ⟨by omega, by omega, by omega, by omega, by omega, by omega⟩, (bl_alloc (bl_alloc (bl_alloc (bl_alloc (Below.refl W2.heap.size W2))))).drew⟩
    · go_simp
      refine hK.out _ _ ⟨cell_keep z0 (bl_alloc (Below.refl W2.heap.size W2)).drew, cell_keep z1 (bl_alloc (Below.refl W2.heap.size W2)).drew⟩ (fun hHeld => ?_)
      clear hK K
      try simp only [Act.put, List.setIfInBounds_toArray, List.set_cons_zero, List.set_cons_succ]
      refine wpAnyH_ready (rs := [3, 7, 12]) (by kernel_rfl) (by simp) ?_
      refine AllReadyH.cons (drop_at rfl) (fun K hK => ?_) (AllReadyH.cons (drop_at rfl) (fun K hK => ?_) (AllReadyH.cons (drop_at rfl) (fun K hK => ?_) AllReadyH.nil))
      · go_simp
        refine hK.out _ _ ⟨cell_keep z0 (bl_alloc (bl_alloc (Below.refl W2.heap.size W2))).drew, cell_keep z1 (bl_alloc (bl_alloc (Below.refl W2.heap.size W2))).drew⟩ (fun hHeld => ?_)
        clear hK K
        try simp only [Act.put, List.setIfInBounds_toArray, List.set_cons_zero, List.set_cons_succ]
        refine wpAnyH_ready (rs := [7, 12]) (by kernel_rfl) (by simp) ?_
        refine AllReadyH.cons (drop_at rfl) (fun K hK => ?_) (AllReadyH.cons (drop_at rfl) (fun K hK => ?_) AllReadyH.nil)
        · go_simp
          refine hK.out _ _ ⟨cell_keep z0 (bl_alloc (bl_alloc (bl_alloc (Below.refl W2.heap.size W2)))).drew, cell_keep z1 (bl_alloc (bl_alloc (bl_alloc (Below.refl W2.heap.size W2)))).drew⟩ (fun hHeld => ?_)
          clear hK K
          try simp only [Act.put, List.setIfInBounds_toArray, List.set_cons_zero, List.set_cons_succ]
          refine wpAnyH_take (i := 11) (v := ?_) (drop_at rfl) (by kernel_rfl) (by kernel_rfl) (by kernel_rfl) (fun _ _ _ h => h) (Or.inl ⟨by rfl, ?_⟩) hHeld ?_
          rotate_left
          · intro w0 hSw
            try dsimp only at hSw
            go_simp
            try with_reducible rfl
          try simp only [Act.put, List.setIfInBounds_toArray, List.set_cons_zero, List.set_cons_succ]
          refine wpAnyH_ready (rs := [12]) (by kernel_rfl) (by simp) ?_
          refine AllReadyH.cons (drop_at rfl) (fun K hK => ?_) AllReadyH.nil
          · go_simp
            refine hK.out _ _ ⟨cell_keep z0 (bl_alloc (bl_alloc (bl_alloc (bl_alloc (Below.refl W2.heap.size W2))))).drew, cell_keep z1 (bl_alloc (bl_alloc (bl_alloc (bl_alloc (Below.refl W2.heap.size W2))))).drew⟩ (fun hHeld => ?_)
            clear hK K
            try simp only [Act.put, List.setIfInBounds_toArray, List.set_cons_zero, List.set_cons_succ]
            refine wpAnyH_done (by kernel_rfl) ?_ _
            exact ⟨_, _, _, _, rfl, (Holds.past (Holds.past (Holds.last (by simp) (by simp <;> omega)))).drew, (Holds.past (Holds.last (by simp) (by simp <;> omega))).drew, (Holds.past (Holds.past (Holds.past (Holds.last (by simp) (by simp <;> omega))))).drew, (Holds.last (by simp) (by simp <;> omega)).drew, ⟨by omega, by omega, by omega, by omega, by omega, by omega⟩, (bl_alloc (bl_alloc (bl_alloc (bl_alloc (Below.refl W2.heap.size W2))))).drew⟩
        · go_simp
          refine hK.out _ _ ⟨cell_keep z0 (bl_alloc (bl_alloc (bl_alloc (Below.refl W2.heap.size W2)))).drew, cell_keep z1 (bl_alloc (bl_alloc (bl_alloc (Below.refl W2.heap.size W2)))).drew⟩ (fun hHeld => ?_)
          clear hK K
          try simp only [Act.put, List.setIfInBounds_toArray, List.set_cons_zero, List.set_cons_succ]
          refine wpAnyH_ready (rs := [7]) (by kernel_rfl) (by simp) ?_
          refine AllReadyH.cons (drop_at rfl) (fun K hK => ?_) AllReadyH.nil
          · go_simp
            refine hK.out _ _ ⟨cell_keep z0 (bl_alloc (bl_alloc (bl_alloc (bl_alloc (Below.refl W2.heap.size W2))))).drew, cell_keep z1 (bl_alloc (bl_alloc (bl_alloc (bl_alloc (Below.refl W2.heap.size W2))))).drew⟩ (fun hHeld => ?_)
            clear hK K
            try simp only [Act.put, List.setIfInBounds_toArray, List.set_cons_zero, List.set_cons_succ]
            refine wpAnyH_take (i := 11) (v := ?_) (drop_at rfl) (by kernel_rfl) (by kernel_rfl) (by kernel_rfl) (fun _ _ _ h => h) (Or.inl ⟨by rfl, ?_⟩) hHeld ?_
            rotate_left
            · intro w0 hSw
              try dsimp only at hSw
              go_simp
              try with_reducible rfl
            try simp only [Act.put, List.setIfInBounds_toArray, List.set_cons_zero, List.set_cons_succ]
            refine wpAnyH_done (by kernel_rfl) ?_ _
            exact ⟨_, _, _, _, rfl, (Holds.past (Holds.past (Holds.last (by simp) (by simp <;> omega)))).drew, (Holds.last (by simp) (by simp <;> omega)).drew, (Holds.past (Holds.past (Holds.past (Holds.last (by simp) (by simp <;> omega))))).drew, (Holds.past (Holds.last (by simp) (by simp <;> omega))).drew, ⟨by omega, by omega, by omega, by omega, by omega, by omega⟩, (bl_alloc (bl_alloc (bl_alloc (bl_alloc (Below.refl W2.heap.size W2))))).drew⟩
      · go_simp
        refine hK.out _ _ ⟨cell_keep z0 (bl_alloc (bl_alloc (Below.refl W2.heap.size W2))).drew, cell_keep z1 (bl_alloc (bl_alloc (Below.refl W2.heap.size W2))).drew⟩ (fun hHeld => ?_)
        clear hK K
        try simp only [Act.put, List.setIfInBounds_toArray, List.set_cons_zero, List.set_cons_succ]
        refine wpAnyH_ready (rs := [3, 12]) (by kernel_rfl) (by simp) ?_
        refine AllReadyH.cons (drop_at rfl) (fun K hK => ?_) (AllReadyH.cons (drop_at rfl) (fun K hK => ?_) AllReadyH.nil)
        · go_simp
          refine hK.out _ _ ⟨cell_keep z0 (bl_alloc (bl_alloc (bl_alloc (Below.refl W2.heap.size W2)))).drew, cell_keep z1 (bl_alloc (bl_alloc (bl_alloc (Below.refl W2.heap.size W2)))).drew⟩ (fun hHeld => ?_)
          clear hK K
          try simp only [Act.put, List.setIfInBounds_toArray, List.set_cons_zero, List.set_cons_succ]
          refine wpAnyH_take (i := 11) (v := ?_) (drop_at rfl) (by kernel_rfl) (by kernel_rfl) (by kernel_rfl) (fun _ _ _ h => h) (Or.inl ⟨by rfl, ?_⟩) hHeld ?_
          rotate_left
          · intro w0 hSw
            try dsimp only at hSw
            go_simp
            try with_reducible rfl
          try simp only [Act.put, List.setIfInBounds_toArray, List.set_cons_zero, List.set_cons_succ]
          refine wpAnyH_ready (rs := [12]) (by kernel_rfl) (by simp) ?_
          refine AllReadyH.cons (drop_at rfl) (fun K hK => ?_) AllReadyH.nil
          · go_simp
            refine hK.out _ _ ⟨cell_keep z0 (bl_alloc (bl_alloc (bl_alloc (bl_alloc (Below.refl W2.heap.size W2))))).drew, cell_keep z1 (bl_alloc (bl_alloc (bl_alloc (bl_alloc (Below.refl W2.heap.size W2))))).drew⟩ (fun hHeld => ?_)
            clear hK K
            try simp only [Act.put, List.setIfInBounds_toArray, List.set_cons_zero, List.set_cons_succ]
            refine wpAnyH_done (by kernel_rfl) ?_ _
            exact ⟨_, _, _, _, rfl, (Holds.past (Holds.last (by simp) (by simp <;> omega))).drew, (Holds.past (Holds.past (Holds.last (by simp) (by simp <;> omega)))).drew, (Holds.past (Holds.past (Holds.past (Holds.last (by simp) (by simp <;> omega))))).drew, (Holds.last (by simp) (by simp <;> omega)).drew, ⟨by omega, by omega, by omega, by omega, by omega, by omega⟩, (bl_alloc (bl_alloc (bl_alloc (bl_alloc (Below.refl W2.heap.size W2))))).drew⟩
        · go_simp
          refine hK.out _ _ ⟨cell_keep z0 (bl_alloc (bl_alloc (bl_alloc (Below.refl W2.heap.size W2)))).drew, cell_keep z1 (bl_alloc (bl_alloc (bl_alloc (Below.refl W2.heap.size W2)))).drew⟩ (fun hHeld => ?_)
          clear hK K
          try simp only [Act.put, List.setIfInBounds_toArray, List.set_cons_zero, List.set_cons_succ]
          refine wpAnyH_ready (rs := [3]) (by kernel_rfl) (by simp) ?_
          refine AllReadyH.cons (drop_at rfl) (fun K hK => ?_) AllReadyH.nil
          · go_simp
            refine hK.out _ _ ⟨cell_keep z0 (bl_alloc (bl_alloc (bl_alloc (bl_alloc (Below.refl W2.heap.size W2))))).drew, cell_keep z1 (bl_alloc (bl_alloc (bl_alloc (bl_alloc (Below.refl W2.heap.size W2))))).drew⟩ (fun hHeld => ?_)
            clear hK K
            try simp only [Act.put, List.setIfInBounds_toArray, List.set_cons_zero, List.set_cons_succ]
            refine wpAnyH_take (i := 11) (v := ?_) (drop_at rfl) (by kernel_rfl) (by kernel_rfl) (by kernel_rfl) (fun _ _ _ h => h) (Or.inl ⟨by rfl, ?_⟩) hHeld ?_
            rotate_left
            · intro w0 hSw
              try dsimp only at hSw
              go_simp
              try with_reducible rfl
            try simp only [Act.put, List.setIfInBounds_toArray, List.set_cons_zero, List.set_cons_succ]
            refine wpAnyH_done (by kernel_rfl) ?_ _
            exact ⟨_, _, _, _, rfl, (Holds.last (by simp) (by simp <;> omega)).drew, (Holds.past (Holds.past (Holds.last (by simp) (by simp <;> omega)))).drew, (Holds.past (Holds.past (Holds.past (Holds.last (by simp) (by simp <;> omega))))).drew, (Holds.past (Holds.last (by simp) (by simp <;> omega))).drew, ⟨by omega, by omega, by omega, by omega, by omega, by omega⟩, (bl_alloc (bl_alloc (bl_alloc (bl_alloc (Below.refl W2.heap.size W2))))).drew⟩
      · go_simp
        refine hK.out _ _ ⟨cell_keep z0 (bl_alloc (bl_alloc (Below.refl W2.heap.size W2))).drew, cell_keep z1 (bl_alloc (bl_alloc (Below.refl W2.heap.size W2))).drew⟩ (fun hHeld => ?_)
        clear hK K
        try simp only [Act.put, List.setIfInBounds_toArray, List.set_cons_zero, List.set_cons_succ]
        refine wpAnyH_ready (rs := [3, 7]) (by kernel_rfl) (by simp) ?_
        refine AllReadyH.cons (drop_at rfl) (fun K hK => ?_) (AllReadyH.cons (drop_at rfl) (fun K hK => ?_) AllReadyH.nil)
        · go_simp
          refine hK.out _ _ ⟨cell_keep z0 (bl_alloc (bl_alloc (bl_alloc (Below.refl W2.heap.size W2)))).drew, cell_keep z1 (bl_alloc (bl_alloc (bl_alloc (Below.refl W2.heap.size W2)))).drew⟩ (fun hHeld => ?_)
          clear hK K
          try simp only [Act.put, List.setIfInBounds_toArray, List.set_cons_zero, List.set_cons_succ]
          refine wpAnyH_ready (rs := [7]) (by kernel_rfl) (by simp) ?_
          refine AllReadyH.cons (drop_at rfl) (fun K hK => ?_) AllReadyH.nil
          · go_simp
            refine hK.out _ _ ⟨cell_keep z0 (bl_alloc (bl_alloc (bl_alloc (bl_alloc (Below.refl W2.heap.size W2))))).drew, cell_keep z1 (bl_alloc (bl_alloc (bl_alloc (bl_alloc (Below.refl W2.heap.size W2))))).drew⟩ (fun hHeld => ?_)
            clear hK K
            try simp only [Act.put, List.setIfInBounds_toArray, List.set_cons_zero, List.set_cons_succ]
            refine wpAnyH_take (i := 11) (v := ?_) (drop_at rfl) (by kernel_rfl) (by kernel_rfl) (by kernel_rfl) (fun _ _ _ h => h) (Or.inl ⟨by rfl, ?_⟩) hHeld ?_
            rotate_left
            · intro w0 hSw
              try dsimp only at hSw
              go_simp
              try with_reducible rfl
            try simp only [Act.put, List.setIfInBounds_toArray, List.set_cons_zero, List.set_cons_succ]
            refine wpAnyH_done (by kernel_rfl) ?_ _
            exact ⟨_, _, _, _, rfl, (Holds.past (Holds.last (by simp) (by simp <;> omega))).drew, (Holds.last (by simp) (by simp <;> omega)).drew, (Holds.past (Holds.past (Holds.past (Holds.last (by simp) (by simp <;> omega))))).drew, (Holds.past (Holds.past (Holds.last (by simp) (by simp <;> omega)))).drew, ⟨by omega, by omega, by omega, by omega, by omega, by omega⟩, (bl_alloc (bl_alloc (bl_alloc (bl_alloc (Below.refl W2.heap.size W2))))).drew⟩
        · go_simp
          refine hK.out _ _ ⟨cell_keep z0 (bl_alloc (bl_alloc (bl_alloc (Below.refl W2.heap.size W2)))).drew, cell_keep z1 (bl_alloc (bl_alloc (bl_alloc (Below.refl W2.heap.size W2)))).drew⟩ (fun hHeld => ?_)
          clear hK K
          try simp only [Act.put, List.setIfInBounds_toArray, List.set_cons_zero, List.set_cons_succ]
          refine wpAnyH_ready (rs := [3]) (by kernel_rfl) (by simp) ?_
          refine AllReadyH.cons (drop_at rfl) (fun K hK => ?_) AllReadyH.nil
          · go_simp
            refine hK.out _ _ ⟨cell_keep z0 (bl_alloc (bl_alloc (bl_alloc (bl_alloc (Below.refl W2.heap.size W2))))).drew, cell_keep z1 (bl_alloc (bl_alloc (bl_alloc (bl_alloc (Below.refl W2.heap.size W2))))).drew⟩ (fun hHeld => ?_)
            clear hK K
            try simp only [Act.put, List.setIfInBounds_toArray, List.set_cons_zero, List.set_cons_succ]
            refine wpAnyH_take (i := 11) (v := ?_) (drop_at rfl) (by kernel_rfl) (by kernel_rfl) (by kernel_rfl) (fun _ _ _ h => h) (Or.inl ⟨by rfl, ?_⟩) hHeld ?_
            rotate_left
            · intro w0 hSw
              try dsimp only at hSw
              go_simp
              try with_reducible rfl
            try simp only [Act.put, List.setIfInBounds_toArray, List.set_cons_zero, List.set_cons_succ]
            refine wpAnyH_done (by kernel_rfl) ?_ _
            exact ⟨_, _, _, _, rfl, (Holds.last (by simp) (by simp <;> omega)).drew, (Holds.past (Holds.last (by simp) (by simp <;> omega))).drew, (Holds.past (Holds.past (Holds.past (Holds.last (by simp) (by simp <;> omega))))).drew, (Holds.past (Holds.past (Holds.last (by simp) (by simp <;> omega)))).drew, ⟨by omega, by omega, by omega, by omega, by omega, by omega⟩, (bl_alloc (bl_alloc (bl_alloc (bl_alloc (Below.refl W2.heap.size W2))))).drew⟩
    · go_simp
      refine hK.out _ _ ⟨cell_keep z0 (bl_alloc (Below.refl W2.heap.size W2)).drew, cell_keep z1 (bl_alloc (Below.refl W2.heap.size W2)).drew⟩ (fun hHeld => ?_)
      clear hK K
      try simp only [Act.put, List.setIfInBounds_toArray, List.set_cons_zero, List.set_cons_succ]
      refine wpAnyH_ready (rs := [3, 7, 10]) (by kernel_rfl) (by simp) ?_
      refine AllReadyH.cons (drop_at rfl) (fun K hK => ?_) (AllReadyH.cons (drop_at rfl) (fun K hK => ?_) (AllReadyH.cons (drop_at rfl) (fun K hK => ?_) AllReadyH.nil))
      · go_simp
        refine hK.out _ _ ⟨cell_keep z0 (bl_alloc (bl_alloc (Below.refl W2.heap.size W2))).drew, cell_keep z1 (bl_alloc (bl_alloc (Below.refl W2.heap.size W2))).drew⟩ (fun hHeld => ?_)
        clear hK K
        try simp only [Act.put, List.setIfInBounds_toArray, List.set_cons_zero, List.set_cons_succ]
        refine wpAnyH_ready (rs := [7, 10]) (by kernel_rfl) (by simp) ?_
        refine AllReadyH.cons (drop_at rfl) (fun K hK => ?_) (AllReadyH.cons (drop_at rfl) (fun K hK => ?_) AllReadyH.nil)
        · go_simp
          refine hK.out _ _ ⟨cell_keep z0 (bl_alloc (bl_alloc (bl_alloc (Below.refl W2.heap.size W2)))).drew, cell_keep z1 (bl_alloc (bl_alloc (bl_alloc (Below.refl W2.heap.size W2)))).drew⟩ (fun hHeld => ?_)
          clear hK K
          try simp only [Act.put, List.setIfInBounds_toArray, List.set_cons_zero, List.set_cons_succ]
          refine wpAnyH_ready (rs := [10]) (by kernel_rfl) (by simp) ?_
          refine AllReadyH.cons (drop_at rfl) (fun K hK => ?_) AllReadyH.nil
          · go_simp
            refine hK.out _ _ ⟨cell_keep z0 (bl_alloc (bl_alloc (bl_alloc (bl_alloc (Below.refl W2.heap.size W2))))).drew, cell_keep z1 (bl_alloc (bl_alloc (bl_alloc (bl_alloc (Below.refl W2.heap.size W2))))).drew⟩ (fun hHeld => ?_)
            clear hK K
            try simp only [Act.put, List.setIfInBounds_toArray, List.set_cons_zero, List.set_cons_succ]
            refine wpAnyH_take (i := 11) (v := ?_) (drop_at rfl) (by kernel_rfl) (by kernel_rfl) (by kernel_rfl) (fun _ _ _ h => h) (Or.inl ⟨by rfl, ?_⟩) hHeld ?_
            rotate_left
            · intro w0 hSw
              try dsimp only at hSw
              go_simp
              try with_reducible rfl
            try simp only [Act.put, List.setIfInBounds_toArray, List.set_cons_zero, List.set_cons_succ]
            refine wpAnyH_done (by kernel_rfl) ?_ _
            exact ⟨_, _, _, _, rfl, (Holds.past (Holds.past (Holds.last (by simp) (by simp <;> omega)))).drew, (Holds.past (Holds.last (by simp) (by simp <;> omega))).drew, (Holds.last (by simp) (by simp <;> omega)).drew, (Holds.past (Holds.past (Holds.past (Holds.last (by simp) (by simp <;> omega))))).drew, ⟨by omega, by omega, by omega, by omega, by omega, by omega⟩, (bl_alloc (bl_alloc (bl_alloc (bl_alloc (Below.refl W2.heap.size W2))))).drew⟩
        · go_simp
          refine hK.out _ _ ⟨cell_keep z0 (bl_alloc (bl_alloc (bl_alloc (Below.refl W2.heap.size W2)))).drew, cell_keep z1 (bl_alloc (bl_alloc (bl_alloc (Below.refl W2.heap.size W2)))).drew⟩ (fun hHeld => ?_)
          clear hK K
          try simp only [Act.put, List.setIfInBounds_toArray, List.set_cons_zero, List.set_cons_succ]
          refine wpAnyH_ready (rs := [7]) (by kernel_rfl) (by simp) ?_
          refine AllReadyH.cons (drop_at rfl) (fun K hK => ?_) AllReadyH.nil
          · go_simp
            refine hK.out _ _ ⟨cell_keep z0 (bl_alloc (bl_alloc (bl_alloc (bl_alloc (Below.refl W2.heap.size W2))))).drew, cell_keep z1 (bl_alloc (bl_alloc (bl_alloc (bl_alloc (Below.refl W2.heap.size W2))))).drew⟩ (fun hHeld => ?_)
            clear hK K
            try simp only [Act.put, List.setIfInBounds_toArray, List.set_cons_zero, List.set_cons_succ]
            refine wpAnyH_take (i := 11) (v := ?_) (drop_at rfl) (by kernel_rfl) (by kernel_rfl) (by kernel_rfl) (fun _ _ _ h => h) (Or.inl ⟨by rfl, ?_⟩) hHeld ?_
            rotate_left
            · intro w0 hSw
              try dsimp only at hSw
              go_simp
              try with_reducible rfl
            try simp only [Act.put, List.setIfInBounds_toArray, List.set_cons_zero, List.set_cons_succ]
            refine wpAnyH_done (by kernel_rfl) ?_ _
            exact ⟨_, _, _, _, rfl, (Holds.past (Holds.past (Holds.last (by simp) (by simp <;> omega)))).drew, (Holds.last (by simp) (by simp <;> omega)).drew, (Holds.past (Holds.last (by simp) (by simp <;> omega))).drew, (Holds.past (Holds.past (Holds.past (Holds.last (by simp) (by simp <;> omega))))).drew, ⟨by omega, by omega, by omega, by omega, by omega, by omega⟩, (bl_alloc (bl_alloc (bl_alloc (bl_alloc (Below.refl W2.heap.size W2))))).drew⟩
      · go_simp
        refine hK.out _ _ ⟨cell_keep z0 (bl_alloc (bl_alloc (Below.refl W2.heap.size W2))).drew, cell_keep z1 (bl_alloc (bl_alloc (Below.refl W2.heap.size W2))).drew⟩ (fun hHeld => ?_)
        clear hK K
        try simp only [Act.put, List.setIfInBounds_toArray, List.set_cons_zero, List.set_cons_succ]
        refine wpAnyH_ready (rs := [3, 10]) (by kernel_rfl) (by simp) ?_
        refine AllReadyH.cons (drop_at rfl) (fun K hK => ?_) (AllReadyH.cons (drop_at rfl) (fun K hK => ?_) AllReadyH.nil)
        · go_simp
          refine hK.out _ _ ⟨cell_keep z0 (bl_alloc (bl_alloc (bl_alloc (Below.refl W2.heap.size W2)))).drew, cell_keep z1 (bl_alloc (bl_alloc (bl_alloc (Below.refl W2.heap.size W2)))).drew⟩ (fun hHeld => ?_)
          clear hK K
          try simp only [Act.put, List.setIfInBounds_toArray, List.set_cons_zero, List.set_cons_succ]
          refine wpAnyH_ready (rs := [10]) (by kernel_rfl) (by simp) ?_
          refine AllReadyH.cons (drop_at rfl) (fun K hK => ?_) AllReadyH.nil
          · go_simp
            refine hK.out _ _ ⟨cell_keep z0 (bl_alloc (bl_alloc (bl_alloc (bl_alloc (Below.refl W2.heap.size W2))))).drew, cell_keep z1 (bl_alloc (bl_alloc (bl_alloc (bl_alloc (Below.refl W2.heap.size W2))))).drew⟩ (fun hHeld => ?_)
            clear hK K
            try simp only [Act.put, List.setIfInBounds_toArray, List.set_cons_zero, List.set_cons_succ]
            refine wpAnyH_take (i := 11) (v := ?_) (drop_at rfl) (by kernel_rfl) (by kernel_rfl) (by kernel_rfl) (fun _ _ _ h => h) (Or.inl ⟨by rfl, ?_⟩) hHeld ?_
            rotate_left
            · intro w0 hSw
              try dsimp only at hSw
              go_simp
              try with_reducible rfl
            try simp only [Act.put, List.setIfInBounds_toArray, List.set_cons_zero, List.set_cons_succ]
            refine wpAnyH_done (by kernel_rfl) ?_ _
            exact ⟨_, _, _, _, rfl, (Holds.past (Holds.last (by simp) (by simp <;> omega))).drew, (Holds.past (Holds.past (Holds.last (by simp) (by simp <;> omega)))).drew, (Holds.last (by simp) (by simp <;> omega)).drew, (Holds.past (Holds.past (Holds.past (Holds.last (by simp) (by simp <;> omega))))).drew, ⟨by omega, by omega, by omega, by omega, by omega, by omega⟩, (bl_alloc (bl_alloc (bl_alloc (bl_alloc (Below.refl W2.heap.size W2))))).drew⟩
        · go_simp
          refine hK.out _ _ ⟨cell_keep z0 (bl_alloc (bl_alloc (bl_alloc (Below.refl W2.heap.size W2)))).drew, cell_keep z1 (bl_alloc (bl_alloc (bl_alloc (Below.refl W2.heap.size W2)))).drew⟩ (fun hHeld => ?_)
          clear hK K
          try simp only [Act.put, List.setIfInBounds_toArray, List.set_cons_zero, List.set_cons_succ]
          refine wpAnyH_ready (rs := [3]) (by kernel_rfl) (by simp) ?_
          refine AllReadyH.cons (drop_at rfl) (fun K hK => ?_) AllReadyH.nil
          · go_simp
            refine hK.out _ _ ⟨cell_keep z0 (bl_alloc (bl_alloc (bl_alloc (bl_alloc (Below.refl W2.heap.size W2))))).drew, cell_keep z1 (bl_alloc (bl_alloc (bl_alloc (bl_alloc (Below.refl W2.heap.size W2))))).drew⟩ (fun hHeld => ?_)
            clear hK K
            try simp only [Act.put, List.setIfInBounds_toArray, List.set_cons_zero, List.set_cons_succ]
            refine wpAnyH_take (i := 11) (v := ?_) (drop_at rfl) (by kernel_rfl) (by kernel_rfl) (by kernel_rfl) (fun _ _ _ h => h) (Or.inl ⟨by rfl, ?_⟩) hHeld ?_
            rotate_left
            · intro w0 hSw
              try dsimp only at hSw
              go_simp
              try with_reducible rfl
            try simp only [Act.put, List.setIfInBounds_toArray, List.set_cons_zero, List.set_cons_succ]
            refine wpAnyH_done (by kernel_rfl) ?_ _
            exact ⟨_, _, _, _, rfl, (Holds.last (by simp) (by simp <;> omega)).drew, (Holds.past (Holds.past (Holds.last (by simp) (by simp <;> omega)))).drew, (Holds.past (Holds.last (by simp) (by simp <;> omega))).drew, (Holds.past (Holds.past (Holds.past (Holds.last (by simp) (by simp <;> omega))))).drew, ⟨by omega, by omega, by omega, by omega, by omega, by omega⟩, (bl_alloc (bl_alloc (bl_alloc (bl_alloc (Below.refl W2.heap.size W2))))).drew⟩
      · go_simp
        refine hK.out _ _ ⟨cell_keep z0 (bl_alloc (bl_alloc (Below.refl W2.heap.size W2))).drew, cell_keep z1 (bl_alloc (bl_alloc (Below.refl W2.heap.size W2))).drew⟩ (fun hHeld => ?_)
        clear hK K
        try simp only [Act.put, List.setIfInBounds_toArray, List.set_cons_zero, List.set_cons_succ]
        refine wpAnyH_ready (rs := [3, 7]) (by kernel_rfl) (by simp) ?_
        refine AllReadyH.cons (drop_at rfl) (fun K hK => ?_) (AllReadyH.cons (drop_at rfl) (fun K hK => ?_) AllReadyH.nil)
        · go_simp
          refine hK.out _ _ ⟨cell_keep z0 (bl_alloc (bl_alloc (bl_alloc (Below.refl W2.heap.size W2)))).drew, cell_keep z1 (bl_alloc (bl_alloc (bl_alloc (Below.refl W2.heap.size W2)))).drew⟩ (fun hHeld => ?_)
          clear hK K
          try simp only [Act.put, List.setIfInBounds_toArray, List.set_cons_zero, List.set_cons_succ]
          refine wpAnyH_ready (rs := [7]) (by kernel_rfl) (by simp) ?_
          refine AllReadyH.cons (drop_at rfl) (fun K hK => ?_) AllReadyH.nil
          · go_simp
            refine hK.out _ _ ⟨cell_keep z0 (bl_alloc (bl_alloc (bl_alloc (bl_alloc (Below.refl W2.heap.size W2))))).drew, cell_keep z1 (bl_alloc (bl_alloc (bl_alloc (bl_alloc (Below.refl W2.heap.size W2))))).drew⟩ (fun hHeld => ?_)
            clear hK K
            try simp only [Act.put, List.setIfInBounds_toArray, List.set_cons_zero, List.set_cons_succ]
            refine wpAnyH_take (i := 11) (v := ?_) (drop_at rfl) (by kernel_rfl) (by kernel_rfl) (by kernel_rfl) (fun _ _ _ h => h) (Or.inl ⟨by rfl, ?_⟩) hHeld ?_
            rotate_left
            · intro w0 hSw
              try dsimp only at hSw
              go_simp
              try with_reducible rfl
            try simp only [Act.put, List.setIfInBounds_toArray, List.set_cons_zero, List.set_cons_succ]
            refine wpAnyH_done (by kernel_rfl) ?_ _
            exact ⟨_, _, _, _, rfl, (Holds.past (Holds.last (by simp) (by simp <;> omega))).drew, (Holds.last (by simp) (by simp <;> omega)).drew, (Holds.past (Holds.past (Holds.last (by simp) (by simp <;> omega)))).drew, (Holds.past (Holds.past (Holds.past (Holds.last (by simp) (by simp <;> omega))))).drew, ⟨by omega, by omega, by omega, by omega, by omega, by omega⟩, (bl_alloc (bl_alloc (bl_alloc (bl_alloc (Below.refl W2.heap.size W2))))).drew⟩
        · go_simp
          refine hK.out _ _ ⟨cell_keep z0 (bl_alloc (bl_alloc (bl_alloc (Below.refl W2.heap.size W2)))).drew, cell_keep z1 (bl_alloc (bl_alloc (bl_alloc (Below.refl W2.heap.size W2)))).drew⟩ (fun hHeld => ?_)
          clear hK K
          try simp only [Act.put, List.setIfInBounds_toArray, List.set_cons_zero, List.set_cons_succ]
          refine wpAnyH_ready (rs := [3]) (by kernel_rfl) (by simp) ?_
          refine AllReadyH.cons (drop_at rfl) (fun K hK => ?_) AllReadyH.nil
          · go_simp
            refine hK.out _ _ ⟨cell_keep z0 (bl_alloc (bl_alloc (bl_alloc (bl_alloc (Below.refl W2.heap.size W2))))).drew, cell_keep z1 (bl_alloc (bl_alloc (bl_alloc (bl_alloc (Below.refl W2.heap.size W2))))).drew⟩ (fun hHeld => ?_)
            clear hK K
            try simp only [Act.put, List.setIfInBounds_toArray, List.set_cons_zero, List.set_cons_succ]
            refine wpAnyH_take (i := 11) (v := ?_) (drop_at rfl) (by kernel_rfl) (by kernel_rfl) (by kernel_rfl) (fun _ _ _ h => h) (Or.inl ⟨by rfl, ?_⟩) hHeld ?_
            rotate_left
            · intro w0 hSw
              try dsimp only at hSw
              go_simp
              try with_reducible rfl
            try simp only [Act.put, List.setIfInBounds_toArray, List.set_cons_zero, List.set_cons_succ]
            refine wpAnyH_done (by kernel_rfl) ?_ _
            exact ⟨_, _, _, _, rfl, (Holds.last (by simp) (by simp <;> omega)).drew, (Holds.past (Holds.last (by simp) (by simp <;> omega))).drew, (Holds.past (Holds.past (Holds.last (by simp) (by simp <;> omega)))).drew, (Holds.past (Holds.past (Holds.past (Holds.last (by simp) (by simp <;> omega))))).drew, ⟨by omega, by omega, by omega, by omega, by omega, by omega⟩, (bl_alloc (bl_alloc (bl_alloc (bl_alloc (Below.refl W2.heap.size W2))))).drew⟩
  · rintro a' w3 ⟨th, mt, pt, cb, rfl, hfour⟩
    have HF := hid hfour
    clear hfour
    simp only [List.drop_succ_cons, List.drop_zero]
    obtain ⟨f0, f1, f2, f3⟩ : w3.cell? ⟨cb, 0, none⟩ = some (.slice none 0 0) ∧ w3.cell? ⟨cb, 1, none⟩ = some (.slice none 0 0) ∧ w3.cell? ⟨cb, 2, none⟩ = some (.slice none 0 0) ∧ w3.cell? ⟨cb, 3, none⟩ = some (.slice none 0 0) := ⟨HF.out.hcb.cell 0, HF.out.hcb.cell 1, HF.out.hcb.cell 2, HF.out.hcb.cell 3⟩
    have g0 := HF.out.hcb.frz 0
    have g1 := HF.out.hcb.frz 1
    have g2 := HF.out.hcb.frz 2
    have g3 := HF.out.hcb.frz 3
    have hcl := HF.out.hcb.lt
    obtain ⟨W4, eW4⟩ : ∃ W4, W4 = (((w3.setCell ⟨cb, 0, none⟩ (.slice none 0 0)).setCell ⟨cb, 1, none⟩ (.slice (some ⟨th, 0, none⟩) 1 1)).setCell ⟨cb, 2, none⟩ (.slice (some ⟨mt, 0, none⟩) 0 0)).setCell ⟨cb, 3, none⟩ (.slice (some ⟨pt, 0, none⟩) 1 1) := ⟨_, rfl⟩
    have k4 : But cb w3 W4 := by rw [eW4]; exact ((set_but.trans set_but).trans set_but).trans set_but
    have h0 : W4.cell? ⟨cb, 0, none⟩ = some (.slice none 0 0) := by rw [eW4]; exact cell_other (cell_other (cell_other (World.cell?_setCell_same _ _ _ f0) (by omega)) (by omega)) (by omega)
    have h1 : W4.cell? ⟨cb, 1, none⟩ = some (.slice (some ⟨th, 0, none⟩) 1 1) := by rw [eW4]; exact cell_other (cell_other (World.cell?_setCell_same _ _ _ (cell_other f1 (by omega))) (by omega)) (by omega)
    have h2 : W4.cell? ⟨cb, 2, none⟩ = some (.slice (some ⟨mt, 0, none⟩) 0 0) := by rw [eW4]; exact cell_other (World.cell?_setCell_same _ _ _ (cell_other (cell_other f2 (by omega)) (by omega))) (by omega)
    have h3 : W4.cell? ⟨cb, 3, none⟩ = some (.slice (some ⟨pt, 0, none⟩) 1 1) := by rw [eW4]; exact World.cell?_setCell_same _ _ _ (cell_other (cell_other (cell_other f3 (by omega)) (by omega)) (by omega))
    have hz4 : ∀ o, W4.frozen? ⟨cb, o, none⟩ = false := fun o => by rw [eW4]; simp only [World.frozen?_setCell]; exact HF.out.hcb.frz o
    have hcw : W2.heap.size ≤ cb := HF.out.hcb.le
    have b24 : Below W2.heap.size W2 W4 := HF.out.bel.trans (k4.low.mono hcw)
    have HT := hid (HF.out.hth.but k4 HF.out.ne.2.2.1)
    have HM := hid (HF.out.hmt.but k4 HF.out.ne.2.2.2.2.1)
    have HP := hid (HF.out.hpt.but k4 HF.out.ne.2.2.2.2.2)
    have HNE := hid HF.out.ne
    have HCB := hid (And.intro h0 (And.intro h1 (And.intro h2 (And.intro h3 hz4))))
    have HCL : Hid (cb < W4.heap.size) := Nat.lt_of_lt_of_le hcl k4.size
    have HCW := hid hcw
    have HB4 := hid b24
    have EW4 := hid eW4
    have y0 := cell_keep z0 b24
    clear HF h0 h1 h2 h3 hz4 hcw b24 k4 eW4 z0 z1
    go_upto_region 2 with fail
    rw [← EW4.out]
    go_wp2
    go_loopw [23, 7] (fun k _ wr => (k = .int .i64 0 ∧ Hid (wr = W4)) ∨ (k = .int .i64 1 ∧ Hid (LoopEnd w port th mt pt cb rx wr))) (fun k _ _ => if intOf k = 0 then 1 else 0)
    case atStart => exact .inl ⟨rfl, rfl⟩
    case round =>
      rcases hrel with ⟨rfl, HW⟩ | ⟨rfl, HE⟩
      · have ew := HW.out
        subst ew
        clear HW
        obtain ⟨g, off, x', ea, hx', hp⟩ := row_at (HL.out.hs.step HeadD.keeps (bl_step HB2.out HB4.out)) (i := 0) (by rw [HN1.out]; omega)
        rw [HX.out] at hx'
        simp only [List.getElem?_cons_zero, Option.some.injEq] at hx'
        subst hx'
        have ch : wr.cell? ⟨g, off, none⟩ = some (.slice x.w.a 1 x.w.c) := by have := hp.1.1; rw [HXN.out] at this; simpa using this
        rw [ea]
        obtain ⟨W5, eW5⟩ : ∃ W5, W5 = wr.alloc (.cells #[.slice x.w.a 1 x.w.c] 63) := ⟨_, rfl⟩
        obtain ⟨hb, hhb⟩ : ∃ b, b = wr.heap.size := ⟨_, rfl⟩
        have b5 : Below wr.heap.size wr W5 := by rw [eW5]; exact bl_alloc (Below.refl _ _)
        have c5 : W5.cell? ⟨hb, 0, none⟩ = some (.slice x.w.a 1 x.w.c) := by rw [eW5, hhb]; exact (World.cell?_alloc_at _ _ _ _ rfl).trans rfl
        obtain ⟨h0, h1, h2, h3, hz⟩ := HCB.out
        have u0 := cell_keep h0 b5
        have HB5 := hid b5
        have EW5 := hid eW5
        have EHB := hid hhb
        obtain ⟨W7, eW7⟩ : ∃ W7, W7 = ((W5.alloc (.cells #[.int .u64 0] 22)).alloc (.cells #[.slice (some ⟨W5.heap.size, 0, none⟩) 1 1] 53)).drew := ⟨_, rfl⟩
        have b7 : Below W5.heap.size W5 W7 := by rw [eW7]; exact (bl_alloc (bl_alloc (Below.refl _ _))).drew
        have HR0 : Hid (Holds W5 W7 W5.heap.size #[.int .u64 0]) := by rw [eW7]; exact (Holds.past (Holds.last rfl (Nat.le_refl _))).drew
        have HS7 : Hid (W7.heap.size = W5.heap.size + 2) := by rw [eW7]; show (World.alloc _ _).heap.size = _; simp
        have HB7 := hid b7
        have EW7 := hid eW7
        clear eW5 hhb b5 hp ea eW7 b7
        go_upto_region 5 with fail
        rw [← EW5.out, ← EHB.out]
        refine wp_region_cut 8 (by kernel_rfl) (by kernel_rfl) ?_
        refine wpAny_of_held (S := fun w' => w'.cell? ⟨cb, 0, none⟩ = some (.slice none 0 0) ∧ w'.cell? ⟨hb, 0, none⟩ = some (.slice x.w.a 1 x.w.c)) _ _ _ _ ?_
        have hHeld : W5.drew.cell? ⟨cb, 0, none⟩ = some (.slice none 0 0) ∧ W5.drew.cell? ⟨hb, 0, none⟩ = some (.slice x.w.a 1 x.w.c) := ⟨u0, c5⟩
        refine wpAnyH_take (i := 0) (v := ?_) (drop_at rfl) (by kernel_rfl) (by kernel_rfl) (by kernel_rfl) (fun _ _ _ h => h) (Or.inl ⟨by rfl, ?_⟩) hHeld ?_
        rotate_left
        · intro w0 hSw
          try dsimp only at hSw
          go_simp
          try with_reducible rfl
        try simp only [Act.put, List.setIfInBounds_toArray, List.set_cons_zero, List.set_cons_succ]
        refine wpAnyH_take (i := 1) (v := ?_) (drop_at rfl) (by kernel_rfl) (by kernel_rfl) (by kernel_rfl) (fun _ _ _ h => h) (Or.inl ⟨by rfl, ?_⟩) hHeld ?_
        rotate_left
        · intro w0 hSw
          try dsimp only at hSw
          go_simp
          try with_reducible rfl
        try simp only [Act.put, List.setIfInBounds_toArray, List.set_cons_zero, List.set_cons_succ]
        refine wpAnyH_take (i := 2) (v := ?_) (drop_at rfl) (by kernel_rfl) (by kernel_rfl) (by kernel_rfl) (fun _ _ _ h => h) (Or.inl ⟨by rfl, ?_⟩) hHeld ?_
        rotate_left
        · intro w0 hSw
          try dsimp only at hSw
          go_simp
          try with_reducible rfl
        try simp only [Act.put, List.setIfInBounds_toArray, List.set_cons_zero, List.set_cons_succ]
        refine wpAnyH_take (i := 3) (v := ?_) (drop_at rfl) (by kernel_rfl) (by kernel_rfl) (by kernel_rfl) (fun _ _ _ h => h) (Or.inl ⟨by rfl, ?_⟩) hHeld ?_
        rotate_left
        · intro w0 hSw
          try dsimp only at hSw
          go_simp
          try with_reducible rfl
        try simp only [Act.put, List.setIfInBounds_toArray, List.set_cons_zero, List.set_cons_succ]
        refine wpAnyH_take (i := 4) (v := ?_) (drop_at rfl) (by kernel_rfl) (by kernel_rfl) (by kernel_rfl) (fun _ _ _ h => h) (Or.inl ⟨by rfl, ?_⟩) hHeld ?_
        rotate_left
        · intro w0 hSw
          try dsimp only at hSw
          go_simp
          try with_reducible rfl
        try simp only [Act.put, List.setIfInBounds_toArray, List.set_cons_zero, List.set_cons_succ]
        refine wpAnyH_ready (rs := [5]) (by kernel_rfl) (by simp) ?_
        refine AllReadyH.cons (drop_at rfl) (fun K hK => ?_) AllReadyH.nil
        go_simp
        refine hK.out _ _ ⟨cell_keep u0 (bl_alloc (Below.refl _ _)).drew, cell_keep c5 (bl_alloc (Below.refl _ _)).drew⟩ (fun hHeld => ?_)
        clear hK K
        try simp only [Act.put, List.setIfInBounds_toArray, List.set_cons_zero, List.set_cons_succ]
        refine wpAnyH_ready (rs := [6]) (by kernel_rfl) (by simp) ?_
        refine AllReadyH.cons (drop_at rfl) (fun K hK => ?_) AllReadyH.nil
        go_simp
        rw [← EW7.out]
        refine hK.out _ _ ⟨cell_keep u0 HB7.out, cell_keep c5 HB7.out⟩ (fun hHeld => ?_)
        clear hK K
        try simp only [Act.put, List.setIfInBounds_toArray, List.set_cons_zero, List.set_cons_succ]
        refine wpAnyH_ready (rs := [7]) (by kernel_rfl) (by simp) ?_
        refine AllReadyH.cons (drop_at rfl) (fun K hK => ?_) AllReadyH.nil
        refine pushK Tryz.underlying108 Tryz.infoNums2 rfl (by decide) (by decide) rfl _ _ rfl W5.heap.size 0 0 1 none [] [.slice (some ⟨W5.heap.size, 0, none⟩) 1 1] ⟨W5.heap.size + 1, 0, none⟩ (by simp [Act.eval]) (by simp [Act.eval]) (World.ownsRow_nil _ _ _ _) rfl (by rw [EW7.out]; exact xsrc_one (by simp)) (by intro u hu; simp only [List.mem_cons, List.not_mem_nil, or_false] at hu; subst hu; rfl) (by omega) (by have := HB7.out.size; omega) ?_
        intro g8 cap8 w8 ho8 hg8 hn8
        have b78 : Below W7.heap.size W7 w8 := (Below.refl _ _).grown hg8 (Nat.le_refl _) (fun r hr => by simp [Value.ownBlock] at hr)
        have hg8l : W7.heap.size ≤ g8 := by
          rcases hn8 with h | h
          · cases h
          · exact h
        have hg8s : g8 < w8.heap.size := (ho8.lt g8 rfl).2
        have cv8 : w8.cell? ⟨g8, 0, none⟩ = some (.slice (some ⟨W5.heap.size, 0, none⟩) 1 1) := by have := ho8.cellAt 0 (by decide); simpa using this
        have b58 : Below W5.heap.size W5 w8 := bl_step HB7.out b78
        have b48 : Below wr.heap.size wr w8 := bl_step HB5.out b58
        have s0 := cell_keep h0 b48
        have s1 := cell_keep h1 b48
        have s2 := cell_keep h2 b48
        have s3 := cell_keep h3 b48
        have sf : w8.frozen? ⟨cb, 0, none⟩ = false := (b48.frozen (p := ⟨cb, 0, none⟩) HCL.out).trans (hz 0)
        obtain ⟨W9, eW9⟩ : ∃ W9, W9 = w8.setCell ⟨cb, 0, none⟩ (.slice (some ⟨g8, 0, none⟩) 1 cap8) := ⟨_, rfl⟩
        have k9 : But cb w8 W9 := by rw [eW9]; exact set_but
        have hw2 := HB2.out.size
        have hs5 := HB5.out.size
        have hs4 := HB4.out.size
        have hcl := HCL.out
        have hcw := HCW.out
        have ht := HT.out.lt
        have hm := HM.out.lt
        have hpl := HP.out.lt
        have hs7 := HS7.out
        have hs5e : W5.heap.size = wr.heap.size + 1 := by rw [EW5.out]; simp
        obtain ⟨n1, n2, n3, n4, n5, n6⟩ := HNE.out
        have hrw : rx < W2.heap.size := HRX.out.lt
        have hre := HRX.out.le
        have HLE : Hid (LoopEnd w port th mt pt cb rx W9) := by
          refine ⟨g8, cap8, W5.heap.size, ⟨((HT.out.step b48).but k9 n3).low hw2, ((HM.out.step b48).but k9 n5).low hw2, ((HP.out.step b48).but k9 n6).low hw2, ((HR0.out.step b78).but k9 (by omega)).low (by omega), k9.cell (by omega) cv8, by omega, ⟨n1, n2, by omega, by omega, n4, by omega, by omega, by omega, by omega, by omega⟩, (bl_step HB2.out (bl_step HB4.out b48)).trans (k9.low.mono (by omega))⟩, ⟨?_, ?_, ?_, ?_⟩, (HRX.out.step (bl_step HB4.out b48)).but k9 (by omega), ⟨?_, ?_, ?_, by omega, by omega⟩, by omega⟩
          · rw [eW9]; exact World.cell?_setCell_same _ _ _ s0
          · rw [eW9]; exact cell_other s1 (by omega)
          · rw [eW9]; exact cell_other s2 (by omega)
          · rw [eW9]; exact cell_other s3 (by omega)
          · have := HT.out.le; omega
          · have := HM.out.le; omega
          · have := HP.out.le; omega
        have hcl8 : cb < w8.heap.size := World.block_lt_of_cell? _ _ s0
        have EW9 := hid eW9
        refine hK.out _ _ ⟨s0, cell_keep c5 b58⟩ (fun hHeld => ?_)
        clear hK K hHeld ho8 hg8 hn8 b78 b58 b48 cv8 k9 s1 s2 s3 eW9 u0 c5 h0 h1 h2 h3 hz hg8l hg8s hw2 hs5 hs4 hcl hcw ht hm hpl hs7 hs5e n1 n2 n3 n4 n5 n6 hrw hre HS7 HR0 HB7 EW7 HB5 EW5 EHB ch
        try simp only [Act.put, List.setIfInBounds_toArray, List.set_cons_zero, List.set_cons_succ]
        refine wpAnyH_done (by kernel_rfl) ?_ _
        show wpList _ _ _ _ _ _
        simp only [List.drop_succ_cons, List.drop_zero]
        go_wp2
        rw [← EW9.out]
        go_roundw
        case rel => exact .inr ⟨rfl, HLE⟩
        case measure => simp [intOf]
      · obtain ⟨vb, vc, r0, hci, ⟨h0, h1, h2, h3⟩, hrx, hne, hcr⟩ := HE.out
        have e0 : wr.cell? ⟨rx, 0, none⟩ = some (.slice none 0 0) := hrx.cell 0
        have e1 : wr.cell? ⟨rx, 1, none⟩ = some (.slice none 0 0) := hrx.cell 1
        have e2 : wr.cell? ⟨rx, 2, none⟩ = some (.slice none 0 0) := hrx.cell 2
        have e3 : wr.cell? ⟨rx, 3, none⟩ = some (.slice none 0 0) := hrx.cell 3
        have p0 := hrx.frz 0
        have p1 := hrx.frz 1
        have p2 := hrx.frz 2
        have p3 := hrx.frz 3
        have hrl := hrx.lt
        have HD : Hid (CargoDone w port (.returned (.agg #[.slice (some ⟨vb, 0, none⟩) 1 vc, .slice (some ⟨th, 0, none⟩) 1 1, .slice (some ⟨mt, 0, none⟩) 0 0, .slice (some ⟨pt, 0, none⟩) 1 1])) ((((wr.setCell ⟨rx, 0, none⟩ (.slice (some ⟨vb, 0, none⟩) 1 vc)).setCell ⟨rx, 1, none⟩ (.slice (some ⟨th, 0, none⟩) 1 1)).setCell ⟨rx, 2, none⟩ (.slice (some ⟨mt, 0, none⟩) 0 0)).setCell ⟨rx, 3, none⟩ (.slice (some ⟨pt, 0, none⟩) 1 1))) := ⟨th, mt, pt, vb, vc, r0, rfl, hci.but (((set_but.trans set_but).trans set_but).trans set_but) hrx.le hne⟩
        clear HE hci hrx hne HT HM HP HNE HCB HCL HCW HB4 HB2 HL HX HXN HN1 HRX EW4
        go_wp2
        exact bodyPost_ret (v := .agg #[.slice (some ⟨vb, 0, none⟩) 1 vc, .slice (some ⟨th, 0, none⟩) 1 1, .slice (some ⟨mt, 0, none⟩) 0 0, .slice (some ⟨pt, 0, none⟩) 1 1]) (by simp [results, Tryz.results38, go_sem, *]) rfl HD.out
end Go.Proofs.YtajelgjbgehahaaGreat

namespace Go.Proofs.YtajelgjbgehahaaGreat
open Go.RowKit

/-- a pipe, as it lies -/
@[reducible] def PipeAt (d : PlanD) (pp : Nat) (st : QSl) (w : World) : Prop := w.cell? ⟨pp, 0, none⟩ = some (.slice st.a st.n st.c) ∧ w.cell? ⟨pp, 1, none⟩ = some (.slice d.heads.a d.heads.n d.heads.c) ∧ w.cell? ⟨pp, 2, none⟩ = some (.slice d.mta.a d.mta.n d.mta.c) ∧ w.cell? ⟨pp, 3, none⟩ = some (.slice d.states.a d.states.n d.states.c) ∧ w.cell? ⟨pp, 4, none⟩ = some (.slice d.acts.a d.acts.n d.acts.c) ∧ w.cell? ⟨pp, 5, none⟩ = some (.slice d.tabs.a d.tabs.n d.tabs.c) ∧ w.cell? ⟨pp, 6, none⟩ = some (.slice d.nodes.a d.nodes.n d.nodes.c) ∧ w.cell? ⟨pp, 7, none⟩ = some (.slice d.out.a d.out.n d.out.c)

theorem PipeAt.step {d : PlanD} {pp : Nat} {st : QSl} {w w' : World} (h : PipeAt d pp st w) (k : Below w.heap.size w w') : PipeAt d pp st w' := by
  obtain ⟨h0, h1, h2, h3, h4, h5, h6, h7⟩ := h
  exact ⟨cell_keep h0 k, cell_keep h1 k, cell_keep h2 k, cell_keep h3 k, cell_keep h4 k, cell_keep h5 k, cell_keep h6 k, cell_keep h7 k⟩

def TripDone (d : PlanD) (b : QSl) (bs : List Int) (w : World) (e : Ending) (w' : World) : Prop := ∃ G : TripD, e = .returned (.pointer (some ⟨G.q, 0, none⟩)) ∧ TripAt d w G w' ∧ G.T = [false] ∧ G.V = [[0]] ∧ G.b = b ∧ G.bs = bs ∧ G.taken = 0 ∧ G.outp = 0 ∧ G.lost = false

theorem trip_of {d : PlanD} {w w6 : World} {st b : QSl} {bs : List Int} {port : Int} {th mt pt vb vc r0 : Nat} {T : TypeId} (hc : CargoIs w w6 port th mt pt vb r0) (hl : d.lie w) (hn1 : d.heads.n = 1) (hmn : d.mta.n = 0) (x : HeadD) (hx : d.hs = [x]) (hxn : x.w.n = 1) (hb : Has .u8 w b.a b.n bs) (hbc : b.n ≤ b.c) :
    TripDone d b bs w (.returned (.pointer (some ⟨w6.heap.size, 0, none⟩))) (w6.alloc (.cells #[.slice d.heads.a d.heads.n d.heads.c, .slice d.mta.a d.mta.n d.mta.c, .slice d.states.a d.states.n d.states.c, .slice d.acts.a d.acts.n d.acts.c, .slice d.tabs.a d.tabs.n d.tabs.c, .slice d.nodes.a d.nodes.n d.nodes.c, .slice d.out.a d.out.n d.out.c, .slice (some ⟨vb, 0, none⟩) 1 vc, .slice (some ⟨th, 0, none⟩) 1 1, .slice (some ⟨mt, 0, none⟩) 0 0, .slice (some ⟨pt, 0, none⟩) 1 1, .slice st.a st.n st.c, .slice b.a b.n b.c, .int .i64 0, .int .i64 0, .bool false] T)) := by
  have c : ∀ (i : Nat) (v : Value), (#[.slice d.heads.a d.heads.n d.heads.c, .slice d.mta.a d.mta.n d.mta.c, .slice d.states.a d.states.n d.states.c, .slice d.acts.a d.acts.n d.acts.c, .slice d.tabs.a d.tabs.n d.tabs.c, .slice d.nodes.a d.nodes.n d.nodes.c, .slice d.out.a d.out.n d.out.c, .slice (some ⟨vb, 0, none⟩) 1 vc, .slice (some ⟨th, 0, none⟩) 1 1, .slice (some ⟨mt, 0, none⟩) 0 0, .slice (some ⟨pt, 0, none⟩) 1 1, .slice st.a st.n st.c, .slice b.a b.n b.c, .int .i64 0, .int .i64 0, .bool false] : Array Value)[i]? = some v → (w6.alloc (.cells #[.slice d.heads.a d.heads.n d.heads.c, .slice d.mta.a d.mta.n d.mta.c, .slice d.states.a d.states.n d.states.c, .slice d.acts.a d.acts.n d.acts.c, .slice d.tabs.a d.tabs.n d.tabs.c, .slice d.nodes.a d.nodes.n d.nodes.c, .slice d.out.a d.out.n d.out.c, .slice (some ⟨vb, 0, none⟩) 1 vc, .slice (some ⟨th, 0, none⟩) 1 1, .slice (some ⟨mt, 0, none⟩) 0 0, .slice (some ⟨pt, 0, none⟩) 1 1, .slice st.a st.n st.c, .slice b.a b.n b.c, .int .i64 0, .int .i64 0, .bool false] T)).cell? ⟨w6.heap.size, i, none⟩ = some v := fun i v hv => (World.cell?_alloc_at _ _ _ _ rfl).trans hv
  have k : Below w6.heap.size w6 (w6.alloc (.cells #[.slice d.heads.a d.heads.n d.heads.c, .slice d.mta.a d.mta.n d.mta.c, .slice d.states.a d.states.n d.states.c, .slice d.acts.a d.acts.n d.acts.c, .slice d.tabs.a d.tabs.n d.tabs.c, .slice d.nodes.a d.nodes.n d.nodes.c, .slice d.out.a d.out.n d.out.c, .slice (some ⟨vb, 0, none⟩) 1 vc, .slice (some ⟨th, 0, none⟩) 1 1, .slice (some ⟨mt, 0, none⟩) 0 0, .slice (some ⟨pt, 0, none⟩) 1 1, .slice st.a st.n st.c, .slice b.a b.n b.c, .int .i64 0, .int .i64 0, .bool false] T)) := bl_alloc (Below.refl _ _)
  have fz : ∀ o, (w6.alloc (.cells #[.slice d.heads.a d.heads.n d.heads.c, .slice d.mta.a d.mta.n d.mta.c, .slice d.states.a d.states.n d.states.c, .slice d.acts.a d.acts.n d.acts.c, .slice d.tabs.a d.tabs.n d.tabs.c, .slice d.nodes.a d.nodes.n d.nodes.c, .slice d.out.a d.out.n d.out.c, .slice (some ⟨vb, 0, none⟩) 1 vc, .slice (some ⟨th, 0, none⟩) 1 1, .slice (some ⟨mt, 0, none⟩) 0 0, .slice (some ⟨pt, 0, none⟩) 1 1, .slice st.a st.n st.c, .slice b.a b.n b.c, .int .i64 0, .int .i64 0, .bool false] T)).frozen? ⟨w6.heap.size, o, none⟩ = false := fun o => World.frozen?_alloc_at _ _ _ _ rfl
  generalize w6.alloc (.cells #[.slice d.heads.a d.heads.n d.heads.c, .slice d.mta.a d.mta.n d.mta.c, .slice d.states.a d.states.n d.states.c, .slice d.acts.a d.acts.n d.acts.c, .slice d.tabs.a d.tabs.n d.tabs.c, .slice d.nodes.a d.nodes.n d.nodes.c, .slice d.out.a d.out.n d.out.c, .slice (some ⟨vb, 0, none⟩) 1 vc, .slice (some ⟨th, 0, none⟩) 1 1, .slice (some ⟨mt, 0, none⟩) 0 0, .slice (some ⟨pt, 0, none⟩) 1 1, .slice st.a st.n st.c, .slice b.a b.n b.c, .int .i64 0, .int .i64 0, .bool false] T) = W at *
  have ht := hc.hth.step k
  have hm := hc.hmt.step k
  have hp := hc.hpt.step k
  have hr := hc.hr0.step k
  have l1 := hc.hth.lt
  have l2 := hc.hmt.lt
  have l3 := hc.hpt.lt
  have l4 := hc.hr0.lt
  have l5 : vb < w6.heap.size := World.block_lt_of_cell? _ _ hc.cv
  obtain ⟨n1, n2, n3, n4, n5, n6, n7, n8, n9, n10⟩ := hc.ne
  refine ⟨⟨w6.heap.size, some ⟨vb, 0, none⟩, vb, vc, th, mt, pt, fun _ => r0, [[0]], [false], [], port, st, b, bs, 0, 0, false⟩, rfl, ?_, rfl, rfl, rfl, rfl, rfl, rfl, rfl⟩
  exact { box := ⟨c 0 _ rfl, c 1 _ rfl, c 2 _ rfl, c 3 _ rfl, c 4 _ rfl, c 5 _ rfl, c 6 _ rfl⟩
          c7 := by rw [hn1]; exact c 7 _ rfl
          c8 := by rw [hn1]; exact c 8 _ rfl
          c9 := by rw [hmn]; exact c 9 _ rfl
          c10 := c 10 _ rfl, c11 := c 11 _ rfl, c12 := c 12 _ rfl, c13 := c 13 _ rfl, c14 := c 14 _ rfl, c15 := c 15 _ rfl
          fq := fz
          ts := fun i y hy => by
            dsimp only at hy ⊢
            rw [ht.cell i]
            match i, hy with
            | 0, hy => cases hy; rfl
          tf := ht.frz
          tl := by rw [hn1]; rfl
          va := fun _ => rfl
          vl := by rw [hn1]; rfl
          vs := fun i ys hy => by
            dsimp only at hy ⊢
            match i, hy with
            | 0, hy =>
              cases hy
              refine ⟨cell_keep hc.cv k, ⟨fun j y hj => ?_, hr.frz, hr.lt, fun y hy => ?_⟩, x, by rw [hx]; rfl, by rw [hxn]; rfl⟩
              · rw [hr.cell j]
                match j, hj with
                | 0, hj => cases hj; rfl
              · simp only [List.mem_cons, List.not_mem_nil, or_false] at hy
                rw [hy]; decide
          ms := ⟨fun j y hj => (by simp at hj), hm.frz, hm.lt, fun y hy => (by simp at hy)⟩
          ml := by rw [hmn]; rfl
          ps := (hp.cell 0).trans rfl
          hb := hb, bc := hbc, lie := hl, bel := bl_step hc.bel k
          nq := hc.bel.size
          nv := hc.vle
          nt := ⟨ht.le, ht.lt⟩
          nm := hm.le, np := hp.le
          nr := fun _ _ => hr.le
          dq := ⟨by dsimp only; omega, by dsimp only; omega, by dsimp only; omega, by dsimp only; omega, fun _ _ => by dsimp only; omega⟩
          dv := ⟨Ne.symm n4, Ne.symm n7, Ne.symm n9, fun _ _ => Ne.symm n10⟩
          dt := ⟨n1, n2, fun _ _ => n3⟩
          dm := ⟨n5, fun _ _ => n6⟩
          dp := fun _ _ => n8
          dr := fun i j hi hj _ => by rw [hn1] at hi hj; omega }

set_option linter.unusedSimpArgs false in
set_option maxHeartbeats 8000000 in
set_option maxRecDepth 20000 in
theorem xtrip_one (d : PlanD) (pp : Nat) (st b : QSl) (bs : List Int) (port : Int) (w : World) (hl : d.lie w) (hpa : PipeAt d pp st w) (x : HeadD) (hx : d.hs = [x]) (hxn : x.w.n = 1) (hmn : d.mta.n = 0) (hp : 0 ≤ port ∧ port < 65536) (hb : Has .u8 w b.a b.n bs) (hbc : b.n ≤ b.c) :
    Calls Tryz.prog 16 #[.pointer (some ⟨pp, 0, none⟩), .slice b.a b.n b.c, .int .i64 port] w (TripDone d b bs w) := by
  have hn1 : d.heads.n = 1 := by rw [← hl.hs.1, hx]; rfl
  have hld : d.lie w.drew := hl.step (Below.refl w.heap.size w).drew
  have HCG := hid (xcargo_one d w.drew hld x hx hxn hmn port hp)
  unfold PlanD.v at HCG
  have HTR : Hid (∀ (w6 : World) (th mt pt vb vc r0 : Nat), CargoIs w.drew w6 port th mt pt vb r0 → TripDone d b bs w (.returned (.pointer (some ⟨w6.heap.size, 0, none⟩))) (w6.alloc (.cells #[.slice d.heads.a d.heads.n d.heads.c, .slice d.mta.a d.mta.n d.mta.c, .slice d.states.a d.states.n d.states.c, .slice d.acts.a d.acts.n d.acts.c, .slice d.tabs.a d.tabs.n d.tabs.c, .slice d.nodes.a d.nodes.n d.nodes.c, .slice d.out.a d.out.n d.out.c, .slice (some ⟨vb, 0, none⟩) 1 vc, .slice (some ⟨th, 0, none⟩) 1 1, .slice (some ⟨mt, 0, none⟩) 0 0, .slice (some ⟨pt, 0, none⟩) 1 1, .slice st.a st.n st.c, .slice b.a b.n b.c, .int .i64 0, .int .i64 0, .bool false] 114))) := fun w6 th mt pt vb vc r0 h => by
    have h' : CargoIs w w6 port th mt pt vb r0 := ⟨⟨h.hth.cell, h.hth.frz, h.hth.lt, h.hth.le⟩, ⟨h.hmt.cell, h.hmt.frz, h.hmt.lt, h.hmt.le⟩, ⟨h.hpt.cell, h.hpt.frz, h.hpt.lt, h.hpt.le⟩, ⟨h.hr0.cell, h.hr0.frz, h.hr0.lt, h.hr0.le⟩, h.cv, h.vle, h.ne, bl_step (Below.refl w.heap.size w).drew h.bel⟩
    exact trip_of h' hl hn1 hmn x hx hxn hb hbc
  have HPA := hid hpa
  clear hl hx hxn hmn hp hb hbc hn1 hld
  go_enter Tryz.func16, Tryz.ntmps16
  go_upto_region 1 with fail
  refine wp_region_held_drew (S := (fun w' => PipeAt d pp st w')) (by kernel_rfl) (HPA.out.step (Below.refl w.heap.size w).drew) (fun hHeld => ?_)
  refine wpAnyH_take (i := 0) (v := ?_) (drop_at rfl) (by kernel_rfl) (by kernel_rfl) (by kernel_rfl) (fun _ _ _ h => h) (Or.inl ⟨by rfl, ?_⟩) hHeld ?_
  rotate_left
  · intro w0 hSw
    try dsimp only at hSw
    go_simp
    try with_reducible rfl
  try simp only [Act.put, List.setIfInBounds_toArray, List.set_cons_zero, List.set_cons_succ]
  refine wpAnyH_take (i := 1) (v := ?_) (drop_at rfl) (by kernel_rfl) (by kernel_rfl) (by kernel_rfl) (fun _ _ _ h => h) (Or.inl ⟨by rfl, ?_⟩) hHeld ?_
  rotate_left
  · intro w0 hSw
    try dsimp only at hSw
    go_simp
    try with_reducible rfl
  try simp only [Act.put, List.setIfInBounds_toArray, List.set_cons_zero, List.set_cons_succ]
  refine wpAnyH_take (i := 2) (v := ?_) (drop_at rfl) (by kernel_rfl) (by kernel_rfl) (by kernel_rfl) (fun _ _ _ h => h) (Or.inl ⟨by rfl, ?_⟩) hHeld ?_
  rotate_left
  · intro w0 hSw
    try dsimp only at hSw
    go_simp
    try with_reducible rfl
  try simp only [Act.put, List.setIfInBounds_toArray, List.set_cons_zero, List.set_cons_succ]
  refine wpAnyH_take (i := 3) (v := ?_) (drop_at rfl) (by kernel_rfl) (by kernel_rfl) (by kernel_rfl) (fun _ _ _ h => h) (Or.inl ⟨by rfl, ?_⟩) hHeld ?_
  rotate_left
  · intro w0 hSw
    try dsimp only at hSw
    go_simp
    try with_reducible rfl
  try simp only [Act.put, List.setIfInBounds_toArray, List.set_cons_zero, List.set_cons_succ]
  refine wpAnyH_take (i := 4) (v := ?_) (drop_at rfl) (by kernel_rfl) (by kernel_rfl) (by kernel_rfl) (fun _ _ _ h => h) (Or.inl ⟨by rfl, ?_⟩) hHeld ?_
  rotate_left
  · intro w0 hSw
    try dsimp only at hSw
    go_simp
    try with_reducible rfl
  try simp only [Act.put, List.setIfInBounds_toArray, List.set_cons_zero, List.set_cons_succ]
  refine wpAnyH_take (i := 5) (v := ?_) (drop_at rfl) (by kernel_rfl) (by kernel_rfl) (by kernel_rfl) (fun _ _ _ h => h) (Or.inl ⟨by rfl, ?_⟩) hHeld ?_
  rotate_left
  · intro w0 hSw
    try dsimp only at hSw
    go_simp
    try with_reducible rfl
  try simp only [Act.put, List.setIfInBounds_toArray, List.set_cons_zero, List.set_cons_succ]
  refine wpAnyH_take (i := 6) (v := ?_) (drop_at rfl) (by kernel_rfl) (by kernel_rfl) (by kernel_rfl) (fun _ _ _ h => h) (Or.inl ⟨by rfl, ?_⟩) hHeld ?_
  rotate_left
  · intro w0 hSw
    try dsimp only at hSw
    go_simp
    try with_reducible rfl
  try simp only [Act.put, List.setIfInBounds_toArray, List.set_cons_zero, List.set_cons_succ]
  refine wpAnyH_take (i := 7) (v := ?_) (drop_at rfl) (by kernel_rfl) (by kernel_rfl) (by kernel_rfl) (fun _ _ _ h => h) (Or.inl ⟨by rfl, ?_⟩) hHeld ?_
  rotate_left
  · intro w0 hSw
    try dsimp only at hSw
    go_simp
    try with_reducible rfl
  try simp only [Act.put, List.setIfInBounds_toArray, List.set_cons_zero, List.set_cons_succ]
  refine wpAnyH_take (i := 8) (v := ?_) (drop_at rfl) (by kernel_rfl) (by kernel_rfl) (by kernel_rfl) (fun _ _ _ h => h) (Or.inl ⟨by rfl, ?_⟩) hHeld ?_
  rotate_left
  · intro w0 hSw
    try dsimp only at hSw
    go_simp
    try with_reducible rfl
  try simp only [Act.put, List.setIfInBounds_toArray, List.set_cons_zero, List.set_cons_succ]
  refine wpAnyH_take (i := 10) (v := ?_) (drop_at rfl) (by kernel_rfl) (by kernel_rfl) (by kernel_rfl) (fun _ _ _ h => h) (Or.inl ⟨by rfl, ?_⟩) hHeld ?_
  rotate_left
  · intro w0 hSw
    try dsimp only at hSw
    go_simp
    try with_reducible rfl
  try simp only [Act.put, List.setIfInBounds_toArray, List.set_cons_zero, List.set_cons_succ]
  refine wpAnyH_take (i := 11) (v := ?_) (drop_at rfl) (by kernel_rfl) (by kernel_rfl) (by kernel_rfl) (fun _ _ _ h => h) (Or.inl ⟨by rfl, ?_⟩) hHeld ?_
  rotate_left
  · intro w0 hSw
    try dsimp only at hSw
    go_simp
    try with_reducible rfl
  try simp only [Act.put, List.setIfInBounds_toArray, List.set_cons_zero, List.set_cons_succ]
  refine wpAnyH_take (i := 12) (v := ?_) (drop_at rfl) (by kernel_rfl) (by kernel_rfl) (by kernel_rfl) (fun _ _ _ h => h) (Or.inl ⟨by rfl, ?_⟩) hHeld ?_
  rotate_left
  · intro w0 hSw
    try dsimp only at hSw
    go_simp
    try with_reducible rfl
  try simp only [Act.put, List.setIfInBounds_toArray, List.set_cons_zero, List.set_cons_succ]
  refine wpAnyH_take (i := 13) (v := ?_) (drop_at rfl) (by kernel_rfl) (by kernel_rfl) (by kernel_rfl) (fun _ _ _ h => h) (Or.inl ⟨by rfl, ?_⟩) hHeld ?_
  rotate_left
  · intro w0 hSw
    try dsimp only at hSw
    go_simp
    try with_reducible rfl
  try simp only [Act.put, List.setIfInBounds_toArray, List.set_cons_zero, List.set_cons_succ]
  refine wpAnyH_take (i := 14) (v := ?_) (drop_at rfl) (by kernel_rfl) (by kernel_rfl) (by kernel_rfl) (fun _ _ _ h => h) (Or.inl ⟨by rfl, ?_⟩) hHeld ?_
  rotate_left
  · intro w0 hSw
    try dsimp only at hSw
    go_simp
    try with_reducible rfl
  try simp only [Act.put, List.setIfInBounds_toArray, List.set_cons_zero, List.set_cons_succ]
  refine wpAnyH_ready (rs := [9]) (by kernel_rfl) (by simp) ?_
  refine AllReadyH.cons (drop_at rfl) (fun K hK => ?_) AllReadyH.nil
  go_simp
  go_at_call 38
  refine HCG.out.mono ?_
  rintro e w6 ⟨th, mt, pt, vb, vc, r0, rfl, hci⟩
  have HC6 := hid hci
  have B6 : Below w.drew.heap.size w.drew w6 := hci.bel
  refine hK.out _ _ ((HPA.out.step (Below.refl w.heap.size w).drew).step B6) (fun hHeld => ?_)
  clear hK K hci HCG
  try simp only [Act.put, List.setIfInBounds_toArray, List.set_cons_zero, List.set_cons_succ]
  refine wpAnyH_take (i := 15) (v := ?_) (drop_at rfl) (by kernel_rfl) (by kernel_rfl) (by kernel_rfl) (fun _ _ _ h => h) (Or.inl ⟨by rfl, ?_⟩) hHeld ?_
  rotate_left
  · intro w0 hSw
    try dsimp only at hSw
    go_simp
    try with_reducible rfl
  try simp only [Act.put, List.setIfInBounds_toArray, List.set_cons_zero, List.set_cons_succ]
  refine wpAnyH_ready (rs := [16]) (by kernel_rfl) (by simp) ?_
  refine AllReadyH.cons (drop_at rfl) (fun K hK => ?_) AllReadyH.nil
  go_simp
  refine hK.out _ _ (((HPA.out.step (Below.refl w.heap.size w).drew).step B6).step (bl_alloc (Below.refl _ _))) (fun hHeld => ?_)
  clear hK K
  try simp only [Act.put, List.setIfInBounds_toArray, List.set_cons_zero, List.set_cons_succ]
  refine wpAnyH_take (i := 17) (v := ?_) (drop_at rfl) (by kernel_rfl) (by kernel_rfl) (by kernel_rfl) (fun _ _ _ h => h) (Or.inl ⟨by rfl, ?_⟩) hHeld ?_
  rotate_left
  · intro w0 hSw
    try dsimp only at hSw
    go_simp
    try with_reducible rfl
  try simp only [Act.put, List.setIfInBounds_toArray, List.set_cons_zero, List.set_cons_succ]
  refine wpAnyH_done (by kernel_rfl) ?_ _
  have HF := hid (HTR.out w6 th mt pt vb vc r0 HC6.out)
  clear HTR HC6 hHeld B6 HPA hpa
  go_wp2
  go_ret
  exact HF.out
end Go.Proofs.YtajelgjbgehahaaGreat
