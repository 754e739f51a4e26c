/- The reader of programs: all. -/
import Derived.Test.YtcdpmpcpgijebaaGRd2
namespace Go.Proofs.Ytcdpmpcpgijebaa
open Go.RowKit

/-- a row of room for m things of k cells, the first of which are xs -/
def GRowK {α : Type} (enc : α → List Value) (k : Nat) (T : TypeId) (m : Nat) (w : World) (g : Nat) (xs : List α) : Prop :=
  ∃ cur : Array Value, w.heap[g]? = some (.cells cur T (0, 0)) ∧ cur.size = m * k ∧ ∀ j x, xs[j]? = some x → ∀ l u, (enc x)[l]? = some u → cur[j * k + l]? = some u

theorem GRowK.some {α : Type} {enc : α → List Value} {k : Nat} {T : TypeId} {m : Nat} {w : World} {g : Nat} {xs : List α} (h : GRowK enc k T m w g xs) {o : Nat} (ho : o < m * k) : ∃ v, w.cell? ⟨g, o, none⟩ = some v := by
  obtain ⟨cur, h1, h2, _⟩ := h
  refine ⟨cur[o]'(by omega), ?_⟩
  simp [World.cell?, h1, h2, ho]

theorem GRowK.fz {α : Type} {enc : α → List Value} {k : Nat} {T : TypeId} {m : Nat} {w : World} {g : Nat} {xs : List α} (h : GRowK enc k T m w g xs) (o : Nat) : w.frozen? ⟨g, o, none⟩ = false := by
  obtain ⟨cur, h1, _⟩ := h
  simp [World.frozen?, h1]

theorem GRowK.lt {α : Type} {enc : α → List Value} {k : Nat} {T : TypeId} {m : Nat} {w : World} {g : Nat} {xs : List α} (h : GRowK enc k T m w g xs) : g < w.heap.size := by
  obtain ⟨cur, h1, _⟩ := h
  exact (Array.getElem?_eq_some_iff.1 h1).1

theorem GRowK.rn {α : Type} {enc : α → List Value} {k : Nat} {T : TypeId} {m : Nat} {w w' : World} {g p : Nat} {xs : List α} (h : GRowK enc k T m w g xs) (r : GRn p w w') (hg : g ≠ p) : GRowK enc k T m w' g xs := by
  have hl := h.lt
  obtain ⟨cur, h1, h2⟩ := h
  exact ⟨cur, (r.block g hl hg).trans h1, h2⟩

/-- a cell behind the things -/
theorem GRowK.put {α : Type} {enc : α → List Value} {k : Nat} {T : TypeId} {m : Nat} {w : World} {g : Nat} {xs : List α} (h : GRowK enc k T m w g xs) (hk : ∀ x, (enc x).length = k) (o : Nat) (v : Value) (ho : xs.length * k ≤ o) (hm : o < m * k) : GRowK enc k T m (w.setCell ⟨g, o, none⟩ v) g xs ∧ (w.setCell ⟨g, o, none⟩ v).cell? ⟨g, o, none⟩ = Option.some v := by
  have hc := h.some hm
  obtain ⟨cur, h1, h2, h3⟩ := h
  refine ⟨⟨cur.setIfInBounds o v, by simp [World.setCell, Array.getElem?_modify, h1], by simpa using h2, fun j x hx l u hu => ?_⟩, ?_⟩
  · have hj : j < xs.length := (List.getElem?_eq_some_iff.1 hx).1
    have hl : l < k := by have := (List.getElem?_eq_some_iff.1 hu).1; rw [hk] at this; exact this
    have h4 : (j + 1) * k ≤ xs.length * k := Nat.mul_le_mul_right k hj
    rw [Nat.add_mul, Nat.one_mul] at h4
    rw [Array.getElem?_setIfInBounds_ne (by omega)]
    exact h3 j x hx l u hu
  · obtain ⟨u, hu⟩ := hc
    exact World.cell?_setCell_same _ _ _ hu

/-- a thing more, where its cells lie behind the others -/
theorem GRowK.more {α : Type} {enc : α → List Value} {k : Nat} {T : TypeId} {m : Nat} {w : World} {g : Nat} {xs : List α} (h : GRowK enc k T m w g xs) (x : α) (hx : ∀ l u, (enc x)[l]? = Option.some u → w.cell? ⟨g, xs.length * k + l, none⟩ = Option.some u) : GRowK enc k T m w g (xs ++ [x]) := by
  obtain ⟨cur, h1, h2, h3⟩ := h
  refine ⟨cur, h1, h2, fun j y hy l u hu => ?_⟩
  rcases Nat.lt_or_ge j xs.length with hj | hj
  · rw [List.getElem?_append_left hj] at hy
    exact h3 j y hy l u hu
  · rw [List.getElem?_append_right hj] at hy
    have hj0 : j = xs.length := by
      have := (List.getElem?_eq_some_iff.1 hy).1
      simp at this
      omega
    subst hj0
    rw [Nat.sub_self] at hy
    simp only [List.getElem?_cons_zero, Option.some.injEq] at hy
    subst hy
    have := hx l u hu
    simpa [World.cell?, h1] using this

theorem GRowK.new {α : Type} (enc : α → List Value) (k : Nat) (T : TypeId) (m : Nat) (w : World) (cur : Array Value) (hc : cur.size = m * k) : GRowK enc k T m (w.alloc (.cells cur T)) w.heap.size [] := by
  refine ⟨cur, ?_, hc, fun j x hx => by simp at hx⟩
  show (w.heap.push _)[w.heap.size]? = _
  rw [Array.getElem?_push_size]

def kShapeE (t : ShapeD) : List Value := [.int .i64 t.keys, .int .i64 t.acts, .int .i64 t.args]
def kInsE (x : InsD) : List Value := [.int .i64 x.op, .int .i64 x.r, .int .i64 x.s, .int .i64 x.k, .int .i64 x.to, .int .u64 x.n]

theorem GRowK.cell {α : Type} {enc : α → List Value} {k : Nat} {T : TypeId} {m : Nat} {w : World} {g : Nat} {xs : List α} (h : GRowK enc k T m w g xs) {j : Nat} {x : α} (hx : xs[j]? = Option.some x) {l : Nat} {u : Value} (hu : (enc x)[l]? = Option.some u) : w.cell? ⟨g, j * k + l, none⟩ = Option.some u := by
  obtain ⟨cur, h1, _, h3⟩ := h
  have := h3 j x hx l u hu
  simp [World.cell?, h1, this]

theorem GRowK.shapes {m : Nat} {w : World} {g : Nat} {xs : List ShapeD} (h : GRowK kShapeE 3 50 m w g xs) (hm : xs.length = m) (hw : ∀ x ∈ xs, x.wf) : QRow 3 ShapeD.lie w ⟨Option.some ⟨g, 0, none⟩, m, m⟩ xs :=
  ⟨hm, fun i x hx => ⟨g, 0, rfl, by
    have hw := hw x (List.mem_of_getElem? hx)
    rw [Nat.zero_add]
    exact ⟨⟨h.cell hx (l := 0) rfl, hw.1⟩, ⟨h.cell hx (l := 1) rfl, hw.2.1⟩, ⟨h.cell hx (l := 2) rfl, hw.2.2⟩⟩⟩⟩

theorem GRowK.inss {m : Nat} {w : World} {g : Nat} {xs : List InsD} (h : GRowK kInsE 6 47 m w g xs) (hm : xs.length = m) (hw : ∀ x ∈ xs, x.wf) : QRow 6 InsD.lie w ⟨Option.some ⟨g, 0, none⟩, m, m⟩ xs :=
  ⟨hm, fun i x hx => ⟨g, 0, rfl, by
    have hw := hw x (List.mem_of_getElem? hx)
    rw [Nat.zero_add]
    exact ⟨⟨h.cell hx (l := 0) rfl, hw.1⟩, ⟨h.cell hx (l := 1) rfl, hw.2.1⟩, ⟨h.cell hx (l := 2) rfl, hw.2.2.1⟩, ⟨h.cell hx (l := 3) rfl, hw.2.2.2.1⟩, ⟨h.cell hx (l := 4) rfl, hw.2.2.2.2.1⟩, ⟨h.cell hx (l := 5) rfl, hw.2.2.2.2.2⟩⟩⟩⟩

def tabsOf (n : Nat) (zs : List Int) : List ShapeD := (List.range n).map fun i => tabOf (zs.drop (3 * i))
def inssOf (n : Nat) (zs : List Int) : List InsD := (List.range n).map fun i => insOf (zs.drop (14 * i))
theorem tabs_next (n : Nat) (zs : List Int) : tabsOf (n + 1) zs = tabsOf n zs ++ [tabOf (zs.drop (3 * n))] := by simp [tabsOf, List.range_succ]
theorem inss_next (n : Nat) (zs : List Int) : inssOf (n + 1) zs = inssOf n zs ++ [insOf (zs.drop (14 * n))] := by simp [inssOf, List.range_succ]
theorem tabs_len (n : Nat) (zs : List Int) : (tabsOf n zs).length = n := by simp [tabsOf]
theorem inss_len (n : Nat) (zs : List Int) : (inssOf n zs).length = n := by simp [inssOf]

theorem wf_small (n : Nat) (h : n < 256 ^ 7) : gwfI (n : Int) := by
  have : (256 : Nat) ^ 7 = 72057594037927936 := rfl
  show (Lit.int .i64 (n : Int)).wf = true
  simp [Lit.wf, IntKind.min, IntKind.max, IntKind.bits, IntKind.signed]
  omega

theorem num_small {zs : List Int} (h : GByt zs) (k : Nat) (hk : k ≤ 7) : numB (zs.take k) < 256 ^ 7 := numB_small (fun y hy => h y (List.mem_of_mem_take hy)) (by rw [List.length_take]; omega)
theorem byt_drop {zs : List Int} (h : GByt zs) (k : Nat) : GByt (zs.drop k) := fun y hy => h y (List.mem_of_mem_drop hy)

theorem tabOf_wf {zs : List Int} (h : GByt zs) : (tabOf zs).wf := ⟨wf_small _ (num_small h 1 (by decide)), wf_small _ (num_small (byt_drop h 1) 1 (by decide)), wf_small _ (num_small (byt_drop (byt_drop h 1) 1) 1 (by decide))⟩
theorem insOf_wf {zs : List Int} (h : GByt zs) : (insOf zs).wf := by
  have h1 := byt_drop h 1
  have h2 := byt_drop h1 1
  have h3 := byt_drop h2 1
  have h4 := byt_drop h3 1
  have h5 := byt_drop h4 2
  refine ⟨wf_small _ (num_small h 1 (by decide)), wf_small _ (num_small h1 1 (by decide)), wf_small _ (num_small h2 1 (by decide)), wf_small _ (num_small h3 1 (by decide)), wf_small _ (num_small h4 2 (by decide)), ?_⟩
  have := numB_small (l := (List.drop 2 (List.drop 1 (List.drop 1 (List.drop 1 (List.drop 1 zs))))).take 8) (k := 8) (fun y hy => h5 y (List.mem_of_mem_take hy)) (by rw [List.length_take]; omega)
  have e8 : (256 : Nat) ^ 8 = 18446744073709551616 := rfl
  show (Lit.int .u64 ((numB ((List.drop 2 (List.drop 1 (List.drop 1 (List.drop 1 (List.drop 1 zs))))).take 8) : Nat) : Int)).wf = true
  exact wf_u64 _ (by omega)
theorem tabsOf_wf {n : Nat} {zs : List Int} (h : GByt zs) : ∀ x ∈ tabsOf n zs, x.wf := by
  intro x hx
  simp only [tabsOf, List.mem_map] at hx
  obtain ⟨i, _, rfl⟩ := hx
  exact tabOf_wf (byt_drop h _)
theorem inssOf_wf {n : Nat} {zs : List Int} (h : GByt zs) : ∀ x ∈ inssOf n zs, x.wf := by
  intro x hx
  simp only [inssOf, List.mem_map] at hx
  obtain ⟨i, _, rfl⟩ := hx
  exact insOf_wf (byt_drop h _)

theorem Try.ginfoShape : (Try.prog.info? 50).map (fun i => (i.zero, i.size, i.bytes)) = some (some (.agg #[.int .i64 0, .int .i64 0, .int .i64 0]), 3, 24) := by kernel_rfl
theorem Try.ginfoIns : (Try.prog.info? 47).map (fun i => (i.zero, i.size, i.bytes)) = some (some (.agg #[.int .i64 0, .int .i64 0, .int .i64 0, .int .i64 0, .int .i64 0, .int .u64 0]), 6, 48) := by kernel_rfl

theorem GRd.byt {p : Nat} {zs : List Int} {w : World} (h : GRd p zs w) : GByt zs := h.ex.elim fun _ ⟨_, _, hz, _⟩ => hz.byt

/-- the program that bytes tell, behind their mark -/
def ntOf (zs : List Int) : Nat := numB ((zs.drop 1).take 1)
def ncOf (zs : List Int) : Nat := numB ((((zs.drop 1).drop 1).drop (3 * ntOf zs)).take 2)
def tsOf (zs : List Int) : List ShapeD := tabsOf (ntOf zs) ((zs.drop 1).drop 1)
def csOf (zs : List Int) : List InsD := inssOf (ncOf zs) ((((zs.drop 1).drop 1).drop (3 * ntOf zs)).drop 2)
def slotsOf (zs : List Int) : Int := ((numB (zs.take 1) : Nat) : Int)

/-- what was read -/
def ReadIs (zs : List Int) (p : Nat) (w : World) (e : Ending) (w' : World) : Prop := ∃ d : ProgD, e = .returned d.v ∧ d.slots = slotsOf zs ∧ d.ts = tsOf zs ∧ d.cs = csOf zs ∧ d.tabs.n = ntOf zs ∧ d.code.n = ncOf zs ∧ d.lie w' ∧ GRn p w w' ∧ (∀ ad, d.tabs.a = some ad → w.heap.size ≤ ad.block) ∧ (∀ ad, d.code.a = some ad → w.heap.size ≤ ad.block)

set_option maxHeartbeats 4000000 in
set_option maxRecDepth 20000 in
theorem grprog (p : Nat) (zs : List Int) (w : World) (h : GRd p zs w) (h4 : 4 + 3 * ntOf zs ≤ zs.length) (hl : zs.length = 4 + 3 * ntOf zs + 14 * ncOf zs) :
    Calls Try.prog 23 #[.pointer (some ⟨p, 0, none⟩)] w (ReadIs zs p w) := by
  have hbz := h.byt
  obtain ⟨W1, eW⟩ : ∃ W1, W1 = w.alloc (.cells #[.int .i64 0, .slice none 0 0, .slice none 0 0] 25) := ⟨_, rfl⟩
  obtain ⟨bx, ebx⟩ : ∃ b, b = w.heap.size := ⟨_, rfl⟩
  have S0 : Hid (GSt p 25 bx w zs [.int .i64 0, .slice none 0 0, .slice none 0 0] W1) := by rw [eW, ebx]; exact GSt.start h _ _
  have hfew := h.few
  obtain ⟨z1, hz1⟩ : ∃ z, z = zs.drop 1 := ⟨_, rfl⟩
  obtain ⟨z2, hz2⟩ : ∃ z, z = z1.drop 1 := ⟨_, rfl⟩
  obtain ⟨nt, hnt⟩ : ∃ n, n = numB (z1.take 1) := ⟨_, rfl⟩
  obtain ⟨z3, hz3⟩ : ∃ z, z = z2.drop (3 * nt) := ⟨_, rfl⟩
  obtain ⟨z4, hz4⟩ : ∃ z, z = z3.drop 2 := ⟨_, rfl⟩
  obtain ⟨nc, hnc⟩ : ∃ n, n = numB (z3.take 2) := ⟨_, rfl⟩
  obtain ⟨x0, hx0⟩ : ∃ n : Int, n = ((numB (zs.take 1) : Nat) : Int) := ⟨_, rfl⟩
  have ent : ntOf zs = nt := by rw [hnt, hz1]; rfl
  have enc : ncOf zs = nc := by rw [hnc, hz3, hz2, ← ent, hz1]; rfl
  have ets : tsOf zs = tabsOf nt z2 := by unfold tsOf; rw [ent, hz2, hz1]
  have ecs : csOf zs = inssOf nc z4 := by unfold csOf; rw [enc, ent, hz4, hz3, hz2, hz1]
  have esl : slotsOf zs = x0 := by rw [hx0]; rfl
  rw [ent] at h4
  rw [ent, enc] at hl
  have l1 : z1.length = zs.length - 1 := by rw [hz1, List.length_drop]
  have l2 : z2.length = zs.length - 2 := by rw [hz2, List.length_drop, l1]; omega
  have l3 : z3.length = zs.length - 2 - 3 * nt := by rw [hz3, List.length_drop, l2]
  have l4 : z4.length = zs.length - 2 - 3 * nt - 2 := by rw [hz4, List.length_drop, l3]
  have hnt5 : nt < 256 := by
    have := numB_small (l := z1.take 1) (k := 1) (fun y hy => hbz y (by rw [hz1] at hy; exact List.mem_of_mem_drop (List.mem_of_mem_take hy))) (by rw [List.length_take]; omega)
    rw [← hnt] at this
    exact this
  have hnc6 : nc < 65536 := by
    have := numB_small (l := z3.take 2) (k := 2) (fun y hy => hbz y (by rw [hz3, hz2, hz1] at hy; exact List.mem_of_mem_drop (List.mem_of_mem_drop (List.mem_of_mem_drop (List.mem_of_mem_take hy))))) (by rw [List.length_take]; omega)
    rw [← hnc] at this
    exact this
  have hb2 : GByt z2 := by rw [hz2, hz1]; exact byt_drop (byt_drop hbz 1) 1
  have hb4 : GByt z4 := by rw [hz4, hz3]; exact byt_drop (byt_drop hb2 _) 2
  have HSB : Hid (gwfI x0) := by rw [hx0]; exact wf_small _ (num_small hbz 1 (by decide))
  have HB2 := hid hb2
  have HB4 := hid hb4
  have N5 := hid hnt5
  have N6 := hid hnc6
  have L2 := hid l2
  have L3 := hid l3
  have L4 := hid l4
  have HL := hid hl
  have H4 := hid h4
  have Z3 := hid hz3
  have HIS : Hid (∀ g1 g2 w', w.heap.size ≤ g1 → w.heap.size ≤ g2 → GRowK kShapeE 3 50 nt w' g1 (tabsOf nt z2) → GRowK kInsE 6 47 nc w' g2 (inssOf nc z4) → GRn p w w' → ReadIs zs p w (.returned (.agg #[.int .i64 x0, .slice (some ⟨g1, 0, none⟩) nt nt, .slice (some ⟨g2, 0, none⟩) nc nc])) w') := fun g1 g2 w' m1 m2 r1 r2 r3 =>
    ⟨⟨x0, ⟨some ⟨g1, 0, none⟩, nt, nt⟩, tabsOf nt z2, ⟨some ⟨g2, 0, none⟩, nc, nc⟩, inssOf nc z4⟩, rfl, esl.symm, ets.symm, ecs.symm, ent.symm, enc.symm, ⟨HSB.out, by simp [QSl.nil0], by simp [QSl.nil0], r1.shapes (tabs_len _ _) (tabsOf_wf hb2), r2.inss (inss_len _ _) (inssOf_wf hb4)⟩, r3, fun ad had => by cases had; exact m1, fun ad had => by cases had; exact m2⟩
  have HF0 := hid (grnumber p 1 zs W1 (by decide) (by decide) S0.out.rd (by omega))
  rw [← hx0, ← hz1] at HF0
  obtain ⟨i0, hi, hq0, hq1, hq2⟩ := info_parts Try.ginfoShape
  have hmk : ∀ W : World, (Instr.makeSlice 22 (.int .i64 (nt : Int)) (.int .i64 (nt : Int))).run Try.prog W = .ok (.slice (some ⟨W.heap.size, 0, none⟩) nt nt) (W.alloc (.cells (madeCells #[.int .i64 0, .int .i64 0, .int .i64 0] (nt * 3)) 50)) := fun W => by
    have h := run_make (P := Try.prog) W 22 50 i0 _ Try.underlying22 hi hq0 .i64 .i64 (nt : Int) (nt : Int) (by omega) (by omega) (by rw [hq2]; omega) (by omega)
    rw [show ((nt : Int)).toNat = nt by omega, hq1] at h
    exact h
  obtain ⟨j0, hj, hr0, hr1, hr2⟩ := info_parts Try.ginfoIns
  have hmk2 : ∀ W : World, (Instr.makeSlice 23 (.int .i64 (nc : Int)) (.int .i64 (nc : Int))).run Try.prog W = .ok (.slice (some ⟨W.heap.size, 0, none⟩) nc nc) (W.alloc (.cells (madeCells #[.int .i64 0, .int .i64 0, .int .i64 0, .int .i64 0, .int .i64 0, .int .u64 0] (nc * 6)) 47)) := fun W => by
    have h := run_make (P := Try.prog) W 23 47 j0 _ Try.underlying23 hj hr0 .i64 .i64 (nc : Int) (nc : Int) (by omega) (by omega) (by rw [hr2]; omega) (by omega)
    rw [show ((nc : Int)).toNat = nc by omega, hr1] at h
    exact h
  have HF1 := hid (fun w' (r : GRd p z1 w') => grnumber p 1 z1 w' (by decide) (by decide) r (by omega))
  rw [← hnt, ← hz2] at HF1
  have HF3 := hid (fun w' (r : GRd p z3 w') => grnumber p 2 z3 w' (by decide) (by decide) r (by omega))
  rw [← hnc, ← hz4] at HF3
  have HMK2 := hid hmk2
  have HMK := hid hmk
  have EW := hid eW
  have EB := hid ebx
  clear h eW ebx hz1 hz2 hz3 hz4 hnt hnc hx0 ent enc ets ecs esl l1 l2 l3 l4 hb2 hb4 hbz hi hq0 hq1 hq2 hj hr0 hr1 hr2 h4 hl hfew hmk2 hmk hnt5 hnc6
  go_enter Try.func23, Try.ntmps23
  go_wp2_with fail
  rw [← EW.out, ← EB.out]
  clear EW EB
  refine HF0.out.mono ?_
  rintro e w2 ⟨rfl, hr, hn⟩
  have T0 := S0.out.read hn hr
  have b0 := T0.box.cell (i := 0) rfl
  have f0 := T0.box.fz 0
  have l0 := T0.box.lt
  obtain ⟨V1, eV1⟩ : ∃ V, V = w2.setCell ⟨bx, 0, none⟩ (.int .i64 x0) := ⟨_, rfl⟩
  have S1 : Hid (GSt p 25 bx w z1 [.int .i64 x0, .slice none 0 0, .slice none 0 0] V1) := by rw [eV1]; exact T0.put 0 _
  have E1 := hid eV1
  clear HF0 hr hn S0 T0 eV1
  go_wp2_with fail
  rw [← E1.out]
  clear E1 b0 f0 l0
  refine (HF1.out _ S1.out.rd).mono ?_
  rintro e w3 ⟨rfl, hr, hn⟩
  have T1 := S1.out.read hn hr
  clear HF1 hr hn S1
  obtain ⟨V2, eV2⟩ : ∃ V, V = (w3.setCell ⟨bx, 1, none⟩ (.slice (some ⟨w3.heap.size, 0, none⟩) nt nt)).alloc (.cells (madeCells #[.int .i64 0, .int .i64 0, .int .i64 0] (nt * 3)) 50) := ⟨_, rfl⟩
  obtain ⟨g1, eg1⟩ : ∃ g, g = w3.heap.size := ⟨_, rfl⟩
  have P1 := T1.put 1 (.slice (some ⟨g1, 0, none⟩) nt nt)
  have b4 : Below (w3.setCell ⟨bx, 1, none⟩ (.slice (some ⟨g1, 0, none⟩) nt nt)).heap.size (w3.setCell ⟨bx, 1, none⟩ (.slice (some ⟨g1, 0, none⟩) nt nt)) V2 := by rw [eV2, eg1]; exact bl_alloc (Below.refl _ _)
  have S2 : Hid (GSt p 25 bx w z2 [.int .i64 x0, .slice (some ⟨g1, 0, none⟩) nt nt, .slice none 0 0] V2) := ⟨P1.rd.step b4, P1.rn.trans (GRn.of b4), (b4.block bx P1.box.lt).trans P1.box, P1.new, P1.ne⟩
  have R1 : Hid (GRowK kShapeE 3 50 nt V2 g1 []) := by
    rw [eV2, eg1]
    have := GRowK.new kShapeE 3 50 nt (w3.setCell ⟨bx, 1, none⟩ (.slice (some ⟨w3.heap.size, 0, none⟩) nt nt)) (madeCells #[.int .i64 0, .int .i64 0, .int .i64 0] (nt * 3)) (by simp [madeCells])
    rw [World.size_setCell] at this
    exact this
  have hg1 : bx < g1 := by rw [eg1]; exact T1.box.lt
  have HG1 := hid hg1
  have HGN : Hid (w.heap.size ≤ g1) := by have := T1.new; show w.heap.size ≤ g1; omega
  have HBP : Hid (p < bx) := T1.ne
  have b1 := T1.box.cell (i := 1) rfl
  have f1 := T1.box.fz 1
  have l1 := T1.box.lt
  have EV2 := hid eV2
  have EG1 := hid eg1
  have hmk := HMK.out
  clear T1 P1 hg1 b4 eV2 eg1
  go_wp2_with fail
  rw [← EV2.out, ← EG1.out]
  clear EV2 EG1 b1 f1 l1 hmk HMK
  go_loopw [15, 3] (fun q _ wr => ∃ i : Nat, q = .int .i64 (i : Int) ∧ Hid (i ≤ nt) ∧ Hid (GSt p 25 bx w (z2.drop (3 * i)) [.int .i64 x0, .slice (some ⟨g1, 0, none⟩) nt nt, .slice none 0 0] wr) ∧ Hid (GRowK kShapeE 3 50 nt wr g1 (tabsOf i z2))) (fun q _ _ => nt - (intOf q).toNat)
  case atStart => exact ⟨0, rfl, Nat.zero_le _, S2, R1⟩
  case round =>
    obtain ⟨i, rfl, HI, SR, RR⟩ := hrel
    clear S2 R1
    by_cases hlt : i < nt
    · have hli : (i : Int) < (nt : Int) := by omega
      have hn5 := N5.out
      obtain ⟨x, hx⟩ : ∃ x, x = tabOf (z2.drop (3 * i)) := ⟨_, rfl⟩
      have hzl : 3 ≤ (z2.drop (3 * i)).length := by rw [List.length_drop]; have := L2.out; have := H4.out; omega
      have hbd : Below wr.heap.size wr wr.drew := (Below.refl _ _).drew
      have HC := hid (grtab p (z2.drop (3 * i)) wr.drew (SR.out.rd.step hbd) hzl)
      rw [← hx, List.drop_drop, show 3 * i + 3 = 3 * (i + 1) by omega] at HC
      dsimp only [ShapeD.v] at HC
      have c1 := SR.out.box.cell (i := 1) rfl
      have f1 := SR.out.box.fz 1
      have hi3 : i * 3 + 3 ≤ nt * 3 := by omega
      have HA : Hid (∀ w6, GRd p (z2.drop (3 * (i + 1))) w6 → GRn p wr.drew w6 → (w6.cell? ⟨bx, 1, none⟩ = some (.slice (some ⟨g1, 0, none⟩) nt nt) ∧ g1 < w6.heap.size ∧ w6.frozen? ⟨g1, i * 3, none⟩ = false ∧ w6.frozen? ⟨g1, i * 3 + 1, none⟩ = false ∧ w6.frozen? ⟨g1, i * 3 + 2, none⟩ = false ∧ (∃ o, w6.cell? ⟨g1, i * 3, none⟩ = some o) ∧ (∃ o, w6.cell? ⟨g1, i * 3 + 1, none⟩ = some o) ∧ ∃ o, w6.cell? ⟨g1, i * 3 + 2, none⟩ = some o) ∧ GSt p 25 bx w (z2.drop (3 * (i + 1))) [.int .i64 x0, .slice (some ⟨g1, 0, none⟩) nt nt, .slice none 0 0] (((w6.setCell ⟨g1, i * 3, none⟩ (.int .i64 x.keys)).setCell ⟨g1, i * 3 + 1, none⟩ (.int .i64 x.acts)).setCell ⟨g1, i * 3 + 2, none⟩ (.int .i64 x.args)) ∧ GRowK kShapeE 3 50 nt (((w6.setCell ⟨g1, i * 3, none⟩ (.int .i64 x.keys)).setCell ⟨g1, i * 3 + 1, none⟩ (.int .i64 x.acts)).setCell ⟨g1, i * 3 + 2, none⟩ (.int .i64 x.args)) g1 (tabsOf (i + 1) z2)) := by
        intro w6 r1 r2
        have T6 := SR.out.read ((GRn.of hbd).trans r2) r1
        have hg := HG1.out
        have hp := HBP.out
        have R6 := RR.out.rn ((GRn.of hbd).trans r2) (by omega)
        have hlen := tabs_len i z2
        have p1 := R6.put (fun _ => rfl) (i * 3) (.int .i64 x.keys) (by omega) (by omega)
        have p2 := p1.1.put (fun _ => rfl) (i * 3 + 1) (.int .i64 x.acts) (by omega) (by omega)
        have p3 := p2.1.put (fun _ => rfl) (i * 3 + 2) (.int .i64 x.args) (by omega) (by omega)
        refine ⟨⟨T6.box.cell (i := 1) rfl, R6.lt, R6.fz _, R6.fz _, R6.fz _, R6.some (by omega), R6.some (by omega), R6.some (by omega)⟩, ?_, ?_⟩
        · refine ⟨((T6.rd.far (by omega) _ _).far (by omega) _ _).far (by omega) _ _, ((T6.rn.put_new HGN.out _ _).put_new HGN.out _ _).put_new HGN.out _ _, ?_, T6.new, T6.ne⟩
          unfold GBoxAt
          rw [Below.heap_setCell _ _ _ _ (by show bx ≠ g1; omega), Below.heap_setCell _ _ _ _ (by show bx ≠ g1; omega), Below.heap_setCell _ _ _ _ (by show bx ≠ g1; omega)]
          exact T6.box
        · rw [tabs_next, ← hx]
          refine p3.1.more x fun l u hu => ?_
          rw [hlen]
          match l, hu with
          | 0, hu => cases hu; exact (World.cell?_setCell_other _ _ _ _ (by intro e; simp only [Addr.mk.injEq] at e; omega)).trans ((World.cell?_setCell_other _ _ _ _ (by intro e; simp only [Addr.mk.injEq] at e; omega)).trans p1.2)
          | 1, hu => cases hu; exact (World.cell?_setCell_other _ _ _ _ (by intro e; simp only [Addr.mk.injEq] at e; omega)).trans p2.2
          | 2, hu => cases hu; exact p3.2
      clear hx hzl hbd SR RR
      go_wp2_with fail
      go_region_law (go_simp; go_at_call 35; refine HC.out.mono ?_; rintro e w6 ⟨rfl, r1, r2⟩; obtain ⟨⟨d1, d2, d3, d4, d5, ⟨o0, d6⟩, ⟨o1, d7⟩, ⟨o2, d8⟩⟩, S6, R6⟩ := HA.out w6 r1 r2; have HS6 := hid S6; have HR6 := hid R6; clear r1 r2 S6 R6)
      all_goals
        clear HA HC
        go_wp2
        go_roundw
        case rel => exact ⟨i + 1, by go_num, hid hlt, HS6, HR6⟩
        case measure => simp [intOf]; omega
    · have hli : ¬ (i : Int) < (nt : Int) := by omega
      have hin : i = nt := by have := HI.out; omega
      subst i
      rw [← Z3.out] at SR
      have c2 := SR.out.box.cell (i := 2) rfl
      have f2 := SR.out.box.fz 2
      have l2 := SR.out.box.lt
      have HF4 := hid (HF3.out _ SR.out.rd)
      go_wp2_with fail
      refine HF4.out.mono ?_
      rintro e w5 ⟨rfl, hr, hn⟩
      have T1 := SR.out.read hn hr
      have hgp1 : g1 ≠ p := by have := HG1.out; have := HBP.out; omega
      have RR5 := RR.out.rn hn hgp1
      obtain ⟨V2, eV2⟩ : ∃ V, V = (w5.setCell ⟨bx, 2, none⟩ (.slice (some ⟨w5.heap.size, 0, none⟩) nc nc)).alloc (.cells (madeCells #[.int .i64 0, .int .i64 0, .int .i64 0, .int .i64 0, .int .i64 0, .int .u64 0] (nc * 6)) 47) := ⟨_, rfl⟩
      obtain ⟨g2, eg2⟩ : ∃ g, g = w5.heap.size := ⟨_, rfl⟩
      have P1 := T1.put 2 (.slice (some ⟨g2, 0, none⟩) nc nc)
      have b4 : Below (w5.setCell ⟨bx, 2, none⟩ (.slice (some ⟨g2, 0, none⟩) nc nc)).heap.size (w5.setCell ⟨bx, 2, none⟩ (.slice (some ⟨g2, 0, none⟩) nc nc)) V2 := by rw [eV2, eg2]; exact bl_alloc (Below.refl _ _)
      have S2 : Hid (GSt p 25 bx w z4 [.int .i64 x0, .slice (some ⟨g1, 0, none⟩) nt nt, .slice (some ⟨g2, 0, none⟩) nc nc] V2) := ⟨P1.rd.step b4, P1.rn.trans (GRn.of b4), (b4.block bx P1.box.lt).trans P1.box, P1.new, P1.ne⟩
      have R2 : Hid (GRowK kInsE 6 47 nc V2 g2 []) := by
        rw [eV2, eg2]
        have := GRowK.new kInsE 6 47 nc (w5.setCell ⟨bx, 2, none⟩ (.slice (some ⟨w5.heap.size, 0, none⟩) nc nc)) (madeCells #[.int .i64 0, .int .i64 0, .int .i64 0, .int .i64 0, .int .i64 0, .int .u64 0] (nc * 6)) (by simp [madeCells])
        rw [World.size_setCell] at this
        exact this
      have R1 : Hid (GRowK kShapeE 3 50 nt V2 g1 (tabsOf nt z2)) := by
        obtain ⟨cur, r1, r2⟩ := RR5
        have hgl := (Array.getElem?_eq_some_iff.1 r1).1
        exact ⟨cur, (b4.block g1 (by rw [World.size_setCell]; exact hgl)).trans ((Below.heap_setCell _ _ _ _ (by have := HG1.out; show g1 ≠ bx; omega)).trans r1), r2⟩
      have HG12 : Hid (g1 < g2) := by rw [eg2]; exact RR5.lt
      have HG2 : Hid (bx < g2) := by rw [eg2]; exact T1.box.lt
      have HGN2 : Hid (w.heap.size ≤ g2) := by have := T1.new; have := HG2.out; show w.heap.size ≤ g2; omega
      have d2 := T1.box.cell (i := 2) rfl
      have e2 := T1.box.fz 2
      have m2 := T1.box.lt
      have EV2 := hid eV2
      have EG2 := hid eg2
      have hmk2 := HMK2.out
      have HN6 := hid hlt
      clear T1 P1 b4 eV2 eg2 hr hn hgp1 RR5 RR SR c2 f2 l2 HF4 HF3
      go_wp2_with fail
      rw [← EV2.out, ← EG2.out]
      clear EV2 EG2 d2 e2 m2 hmk2 HMK2 HI hli hlt
      go_loopw [32, 4] (fun q _ wr => ∃ i : Nat, q = .int .i64 (i : Int) ∧ Hid (i ≤ nc) ∧ Hid (GSt p 25 bx w (z4.drop (14 * i)) [.int .i64 x0, .slice (some ⟨g1, 0, none⟩) nt nt, .slice (some ⟨g2, 0, none⟩) nc nc] wr) ∧ Hid (GRowK kInsE 6 47 nc wr g2 (inssOf i z4)) ∧ Hid (GRowK kShapeE 3 50 nt wr g1 (tabsOf nt z2))) (fun q _ _ => nc - (intOf q).toNat)
      case atStart => exact ⟨0, rfl, Nat.zero_le _, S2, R2, R1⟩
      case round =>
        obtain ⟨i, rfl, HI, SR, RR, RT⟩ := hrel
        clear S2 R1 R2
        by_cases hlt : i < nc
        · have hli : (i : Int) < (nc : Int) := by omega
          have hn6 := N6.out
          obtain ⟨x, hx⟩ : ∃ x, x = insOf (z4.drop (14 * i)) := ⟨_, rfl⟩
          have hzl : 14 ≤ (z4.drop (14 * i)).length := by rw [List.length_drop]; have := L4.out; have := HL.out; omega
          have hbd : Below wr.heap.size wr wr.drew := (Below.refl _ _).drew
          have HC := hid (grins p (z4.drop (14 * i)) wr.drew (SR.out.rd.step hbd) hzl)
          rw [← hx, List.drop_drop, show 14 * i + 14 = 14 * (i + 1) by omega] at HC
          dsimp only [InsD.v] at HC
          have c1 := SR.out.box.cell (i := 2) rfl
          have f1 := SR.out.box.fz 2
          have hi3 : i * 6 + 6 ≤ nc * 6 := by omega
          have HA : Hid (∀ w6, GRd p (z4.drop (14 * (i + 1))) w6 → GRn p wr.drew w6 → (w6.cell? ⟨bx, 2, none⟩ = some (.slice (some ⟨g2, 0, none⟩) nc nc) ∧ g2 < w6.heap.size ∧ w6.frozen? ⟨g2, i * 6, none⟩ = false ∧ w6.frozen? ⟨g2, i * 6 + 1, none⟩ = false ∧ w6.frozen? ⟨g2, i * 6 + 2, none⟩ = false ∧ w6.frozen? ⟨g2, i * 6 + 3, none⟩ = false ∧ w6.frozen? ⟨g2, i * 6 + 4, none⟩ = false ∧ w6.frozen? ⟨g2, i * 6 + 5, none⟩ = false ∧ (∃ o, w6.cell? ⟨g2, i * 6, none⟩ = some o) ∧ (∃ o, w6.cell? ⟨g2, i * 6 + 1, none⟩ = some o) ∧ (∃ o, w6.cell? ⟨g2, i * 6 + 2, none⟩ = some o) ∧ (∃ o, w6.cell? ⟨g2, i * 6 + 3, none⟩ = some o) ∧ (∃ o, w6.cell? ⟨g2, i * 6 + 4, none⟩ = some o) ∧ (∃ o, w6.cell? ⟨g2, i * 6 + 5, none⟩ = some o)) ∧ GSt p 25 bx w (z4.drop (14 * (i + 1))) [.int .i64 x0, .slice (some ⟨g1, 0, none⟩) nt nt, .slice (some ⟨g2, 0, none⟩) nc nc] ((((((w6.setCell ⟨g2, i * 6, none⟩ (.int .i64 x.op)).setCell ⟨g2, i * 6 + 1, none⟩ (.int .i64 x.r)).setCell ⟨g2, i * 6 + 2, none⟩ (.int .i64 x.s)).setCell ⟨g2, i * 6 + 3, none⟩ (.int .i64 x.k)).setCell ⟨g2, i * 6 + 4, none⟩ (.int .i64 x.to)).setCell ⟨g2, i * 6 + 5, none⟩ (.int .u64 x.n)) ∧ GRowK kInsE 6 47 nc ((((((w6.setCell ⟨g2, i * 6, none⟩ (.int .i64 x.op)).setCell ⟨g2, i * 6 + 1, none⟩ (.int .i64 x.r)).setCell ⟨g2, i * 6 + 2, none⟩ (.int .i64 x.s)).setCell ⟨g2, i * 6 + 3, none⟩ (.int .i64 x.k)).setCell ⟨g2, i * 6 + 4, none⟩ (.int .i64 x.to)).setCell ⟨g2, i * 6 + 5, none⟩ (.int .u64 x.n)) g2 (inssOf (i + 1) z4) ∧ GRowK kShapeE 3 50 nt ((((((w6.setCell ⟨g2, i * 6, none⟩ (.int .i64 x.op)).setCell ⟨g2, i * 6 + 1, none⟩ (.int .i64 x.r)).setCell ⟨g2, i * 6 + 2, none⟩ (.int .i64 x.s)).setCell ⟨g2, i * 6 + 3, none⟩ (.int .i64 x.k)).setCell ⟨g2, i * 6 + 4, none⟩ (.int .i64 x.to)).setCell ⟨g2, i * 6 + 5, none⟩ (.int .u64 x.n)) g1 (tabsOf nt z2)) := by
            intro w6 r1 r2
            have T6 := SR.out.read ((GRn.of hbd).trans r2) r1
            have hg := HG2.out
            have hg12 := HG12.out
            have hg1 := HG1.out
            have hp := HBP.out
            have R6 := RR.out.rn ((GRn.of hbd).trans r2) (by omega)
            have RS := RT.out.rn ((GRn.of hbd).trans r2) (by omega)
            have hlen := inss_len i z4
            have p0 := R6.put (fun _ => rfl) (i * 6) (.int .i64 x.op) (by omega) (by omega)
            have p1 := p0.1.put (fun _ => rfl) (i * 6 + 1) (.int .i64 x.r) (by omega) (by omega)
            have p2 := p1.1.put (fun _ => rfl) (i * 6 + 2) (.int .i64 x.s) (by omega) (by omega)
            have p3 := p2.1.put (fun _ => rfl) (i * 6 + 3) (.int .i64 x.k) (by omega) (by omega)
            have p4 := p3.1.put (fun _ => rfl) (i * 6 + 4) (.int .i64 x.to) (by omega) (by omega)
            have p5 := p4.1.put (fun _ => rfl) (i * 6 + 5) (.int .u64 x.n) (by omega) (by omega)
            refine ⟨⟨T6.box.cell (i := 2) rfl, R6.lt, R6.fz _, R6.fz _, R6.fz _, R6.fz _, R6.fz _, R6.fz _, R6.some (by omega), R6.some (by omega), R6.some (by omega), R6.some (by omega), R6.some (by omega), R6.some (by omega)⟩, ?_, ?_, ?_⟩
            · refine ⟨((((((T6.rd.far (by omega) _ _).far (by omega) _ _).far (by omega) _ _).far (by omega) _ _).far (by omega) _ _).far (by omega) _ _), ((((((T6.rn.put_new HGN2.out _ _).put_new HGN2.out _ _).put_new HGN2.out _ _).put_new HGN2.out _ _).put_new HGN2.out _ _).put_new HGN2.out _ _), ?_, T6.new, T6.ne⟩
              unfold GBoxAt
              rw [Below.heap_setCell _ _ _ _ (by show bx ≠ g2; omega), Below.heap_setCell _ _ _ _ (by show bx ≠ g2; omega), Below.heap_setCell _ _ _ _ (by show bx ≠ g2; omega), Below.heap_setCell _ _ _ _ (by show bx ≠ g2; omega), Below.heap_setCell _ _ _ _ (by show bx ≠ g2; omega), Below.heap_setCell _ _ _ _ (by show bx ≠ g2; omega)]
              exact T6.box
            · rw [inss_next, ← hx]
              refine p5.1.more x fun l u hu => ?_
              rw [hlen]
              match l, hu with
              | 0, hu => cases hu; exact (World.cell?_setCell_other _ _ _ _ (by intro e; simp only [Addr.mk.injEq] at e; omega)).trans ((World.cell?_setCell_other _ _ _ _ (by intro e; simp only [Addr.mk.injEq] at e; omega)).trans ((World.cell?_setCell_other _ _ _ _ (by intro e; simp only [Addr.mk.injEq] at e; omega)).trans ((World.cell?_setCell_other _ _ _ _ (by intro e; simp only [Addr.mk.injEq] at e; omega)).trans ((World.cell?_setCell_other _ _ _ _ (by intro e; simp only [Addr.mk.injEq] at e; omega)).trans (p0.2)))))
              | 1, hu => cases hu; exact (World.cell?_setCell_other _ _ _ _ (by intro e; simp only [Addr.mk.injEq] at e; omega)).trans ((World.cell?_setCell_other _ _ _ _ (by intro e; simp only [Addr.mk.injEq] at e; omega)).trans ((World.cell?_setCell_other _ _ _ _ (by intro e; simp only [Addr.mk.injEq] at e; omega)).trans ((World.cell?_setCell_other _ _ _ _ (by intro e; simp only [Addr.mk.injEq] at e; omega)).trans (p1.2))))
              | 2, hu => cases hu; exact (World.cell?_setCell_other _ _ _ _ (by intro e; simp only [Addr.mk.injEq] at e; omega)).trans ((World.cell?_setCell_other _ _ _ _ (by intro e; simp only [Addr.mk.injEq] at e; omega)).trans ((World.cell?_setCell_other _ _ _ _ (by intro e; simp only [Addr.mk.injEq] at e; omega)).trans (p2.2)))
              | 3, hu => cases hu; exact (World.cell?_setCell_other _ _ _ _ (by intro e; simp only [Addr.mk.injEq] at e; omega)).trans ((World.cell?_setCell_other _ _ _ _ (by intro e; simp only [Addr.mk.injEq] at e; omega)).trans (p3.2))
              | 4, hu => cases hu; exact (World.cell?_setCell_other _ _ _ _ (by intro e; simp only [Addr.mk.injEq] at e; omega)).trans (p4.2)
              | 5, hu => cases hu; exact p5.2
            · obtain ⟨cur, q1, q2⟩ := RS
              refine ⟨cur, ?_, q2⟩
              rw [Below.heap_setCell _ _ _ _ (by show g1 ≠ g2; omega), Below.heap_setCell _ _ _ _ (by show g1 ≠ g2; omega), Below.heap_setCell _ _ _ _ (by show g1 ≠ g2; omega), Below.heap_setCell _ _ _ _ (by show g1 ≠ g2; omega), Below.heap_setCell _ _ _ _ (by show g1 ≠ g2; omega), Below.heap_setCell _ _ _ _ (by show g1 ≠ g2; omega)]
              exact q1
          clear hx hzl hbd SR RR RT
          go_wp2_with fail
          go_region_law (go_simp; go_at_call 36; refine HC.out.mono ?_; rintro e w6 ⟨rfl, r1, r2⟩; obtain ⟨⟨d1, d2, d3, d4, d5, d6, d7, d8, ⟨o0, k0⟩, ⟨o1, k1⟩, ⟨o2, k2⟩, ⟨o3, k3⟩, ⟨o4, k4⟩, ⟨o5, k5⟩⟩, S6, R6, R7⟩ := HA.out w6 r1 r2; have HS6 := hid S6; have HR6 := hid R6; have HR7 := hid R7; clear r1 r2 S6 R6 R7)
          all_goals
            clear HA HC
            go_wp2
            go_roundw
            case rel => exact ⟨i + 1, by go_num, hid hlt, HS6, HR6, HR7⟩
            case measure => simp [intOf]; omega
        · have hli : ¬ (i : Int) < (nc : Int) := by omega
          obtain rfl : i = nc := by have := HI.out; omega
          have y0 := SR.out.box.cell (i := 0) rfl
          have y1 := SR.out.box.cell (i := 1) rfl
          have y2 := SR.out.box.cell (i := 2) rfl
          have u0 := SR.out.box.fz 0
          have u1 := SR.out.box.fz 1
          have u2 := SR.out.box.fz 2
          have yl := SR.out.box.lt
          have hg := HG2.out
          have hg1 := HG1.out
          have T9 := ((SR.out.put 0 (.int .i64 x0)).put 1 (.slice (some ⟨g1, 0, none⟩) nt nt)).put 2 (.slice (some ⟨g2, 0, none⟩) i i)
          have HE : Hid (ReadIs zs p w (.returned (.agg #[.int .i64 x0, .slice (some ⟨g1, 0, none⟩) nt nt, .slice (some ⟨g2, 0, none⟩) i i])) (((wr.setCell ⟨bx, 0, none⟩ (.int .i64 x0)).setCell ⟨bx, 1, none⟩ (.slice (some ⟨g1, 0, none⟩) nt nt)).setCell ⟨bx, 2, none⟩ (.slice (some ⟨g2, 0, none⟩) i i))) := by
            show ReadIs _ _ _ _ _
            refine HIS.out g1 g2 _ HGN.out HGN2.out ?_ ?_ T9.rn
            · obtain ⟨cur, q1, q2⟩ := RT.out
              refine ⟨cur, ?_, q2⟩
              rw [Below.heap_setCell _ _ _ _ (by show g1 ≠ bx; omega), Below.heap_setCell _ _ _ _ (by show g1 ≠ bx; omega), Below.heap_setCell _ _ _ _ (by show g1 ≠ bx; omega)]
              exact q1
            · obtain ⟨cur, q1, q2⟩ := RR.out
              refine ⟨cur, ?_, q2⟩
              rw [Below.heap_setCell _ _ _ _ (by show g2 ≠ bx; omega), Below.heap_setCell _ _ _ _ (by show g2 ≠ bx; omega), Below.heap_setCell _ _ _ _ (by show g2 ≠ bx; omega)]
              exact q1
          clear SR RR RT T9 HIS HG1 HG2 HG12 hg hg1
          go_wp2
          exact bodyPost_ret (v := .agg #[.int .i64 x0, .slice (some ⟨g1, 0, none⟩) nt nt, .slice (some ⟨g2, 0, none⟩) i i]) (by simp [results, Try.results23, go_sem, *]) rfl HE.out
end Go.Proofs.Ytcdpmpcpgijebaa
