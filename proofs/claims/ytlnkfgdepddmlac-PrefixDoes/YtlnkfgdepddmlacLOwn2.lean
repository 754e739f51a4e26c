/- What the document's own does with an entry without masks. -/
import Derived.Test.YtlnkfgdepddmlacLOwn
namespace Go.Proofs.Ytlnkfgdepddmlac
open Go.RowKit Mth

/-- one append of a region: nothing behind nothing -/
theorem step64nil {ops : Array Oper} {o : Oper} {a : Act} {w : World} {K : Act → World → Prop} {Q : Exit → Act → World → Prop} {E : Prop} (hgd : o.guard = none) (s x : Operand)
    (ho : o.op = .call { callee := .builtin .append, args := #[s, x], argTypes := #[31, 31] }) (hs : a.eval s = .slice none 0 0) (hx : a.eval x = .slice none 0 0) (h : K (a.put o.dst (.slice none 0 0)) w) :
    if Region.wanted o (yielded ops a.tmps) = true then Oper.wp Try.prog o a w K Q else E := by
  have hw : Region.wanted o (yielded ops a.tmps) = true := by simp [Region.wanted, hgd]
  rw [if_pos hw]
  obtain ⟨i0, hi, hz0, hz1, hz2⟩ := info_parts Try.info38
  have hrun := run_append_owned_none (P := Try.prog) (w := w) w.heap.size 31 o.type 38 i0 1 Try.underlying31 hi (.slice none 0 0) 0 [] (World.ownsRow_nil _ _ _ _)
  unfold Oper.wp execOp
  simp only [ho, resolve, invoke, builtin, Sem.run_bind, Sem.run_pure, Result.andThen_ok, List.map_toArray, List.map_cons, List.map_nil, hs, hx, hrun]
  exact h

def OwnNil (w w' : World) (kn n : Nat) (ln pr ac : Int) (ks xs : List Int) (e : Ending) : Prop :=
  ∃ ak ck aa ca, e = .returned (EV ak kn ck none 0 0 ln pr ac aa n ca) ∧ Lst w' w.heap.size ak kn ck ks ∧ Lst w' w.heap.size aa n ca xs ∧ Below w.heap.size w w'

set_option maxHeartbeats 4000000 in
set_option maxRecDepth 20000 in
theorem own_nil {w : World} {ka a : Option Addr} {kn kc n c : Nat} {ln pr ac : Int} {ks xs : List Int} (hkn : ka = none → kn = 0 ∧ kc = 0) (hk : Has .u64 w ka kn ks) (hk3 : kn ≤ 1000) (hk0 : 0 < kn) (hxn : a = none → n = 0 ∧ c = 0) (hx : Has .u64 w a n xs) (hx3 : n ≤ 1000) :
    Calls Try.prog 47 #[EV ka kn kc none 0 0 ln pr ac a n c] w fun e w' => OwnNil w w' kn n ln pr ac ks xs e := by
  have hb0 : Below w.heap.size w ((w.alloc (EC ka kn kc none 0 0 ln pr ac a n c)).alloc (EC none 0 0 none 0 0 0 0 0 none 0 0)) := bl_alloc (bl_alloc (Below.refl _ _))
  have HK := hid (hk.step hb0)
  have HX := hid (hx.step hb0)
  have HKN := hid hkn
  have HXN := hid hxn
  have T := (six_new w (.slice ka kn kc) (.slice none 0 0) (.int .i64 ln) (.int .i64 pr) (.int .i64 ac) (.slice a n c) 33).step (bl_alloc (o := EC none 0 0 none 0 0 0 0 0 none 0 0) (Below.refl _ _))
  have hR := six_new (w.alloc (EC ka kn kc none 0 0 ln pr ac a n c)) (.slice none 0 0) (.slice none 0 0) (.int .i64 0) (.int .i64 0) (.int .i64 0) (.slice none 0 0) 33
  rw [show (w.alloc (EC ka kn kc none 0 0 ln pr ac a n c)).heap.size = w.heap.size + 1 from by simp] at hR
  have HB0 := hid hb0
  have HR := hid hR
  clear hk hx hkn hxn hb0 hR
  go_enter Try.func47, Try.ntmps47
  go_wp2
  generalize (w.alloc (EC ka kn kc none 0 0 ln pr ac a n c)).alloc (EC none 0 0 none 0 0 0 0 0 none 0 0) = w0 at *
  obtain ⟨k0, k1, k2, k3, k4, k5, _, _, _, _, _, _⟩ := T
  have R0 := hid (HR.out.step (Below.refl w0.heap.size w0).drew)
  have HK0 := hid HK.out.drew
  have HX0 := hid HX.out.drew
  clear HK HX HR
  go_region_held3 (fun w' => w'.cell? ⟨w.heap.size, 0, none⟩ = some (.slice ka kn kc) ∧ w'.cell? ⟨w.heap.size, 1, none⟩ = some (.slice none 0 0) ∧ w'.cell? ⟨w.heap.size, 2, none⟩ = some (.int .i64 ln) ∧ w'.cell? ⟨w.heap.size, 3, none⟩ = some (.int .i64 pr) ∧ w'.cell? ⟨w.heap.size, 4, none⟩ = some (.int .i64 ac) ∧ w'.cell? ⟨w.heap.size, 5, none⟩ = some (.slice a n c))
    (first
      | go_keep
      | (go_split_ands
         first
         | exact keep6 ⟨by assumption, by assumption, by assumption, by assumption, by assumption, by assumption⟩ hbk
         | exact keep6 ⟨by assumption, by assumption, by assumption, by assumption, by assumption, by assumption⟩ hba))
    (first
      | (refine step64 (by rfl) _ _ (by rfl) kn kc ks ka (by rfl) (by rfl) HKN.out (by first | exact HK0.out | exact HK0.out.step hba) (by omega) ?_; intro vk wk hok hbk; obtain ⟨ak, ck, rfl, hck, hnk⟩ := own_is hok; have Rk : Six wk (w.heap.size + 1) (.slice none 0 0) (.slice none 0 0) (.int .i64 0) (.int .i64 0) (.int .i64 0) (.slice none 0 0) := (by first | exact R0.out.step hbk | exact (R0.out.step hba).step hbk); obtain ⟨_, _, _, _, _, _, _, _, _, _, _, _⟩ := Rk)
      | (refine step64 (by rfl) _ _ (by rfl) n c xs a (by rfl) (by rfl) HXN.out (by first | exact HX0.out | exact HX0.out.step hbk) (by omega) ?_; intro va wa hoa hba; obtain ⟨aa, ca, rfl, hca, hna⟩ := own_is hoa; have Ra : Six wa (w.heap.size + 1) (.slice none 0 0) (.slice none 0 0) (.int .i64 0) (.int .i64 0) (.int .i64 0) (.slice none 0 0) := (by first | exact R0.out.step hba | exact (R0.out.step hbk).step hba); obtain ⟨_, _, _, _, _, _, _, _, _, _, _, _⟩ := Ra)
      | (refine step64nil (by rfl) _ _ (by rfl) (by rfl) (by rfl) ?_))
  all_goals
    have hlt : w.heap.size + 1 < w0.drew.heap.size := World.block_lt_of_cell? w0.drew _ R0.out.k0
    have h0 : w.heap.size ≤ w0.drew.heap.size := by omega
    have hS := six_set (((R0.out.step hbk).step hba)) (.slice ak kn ck) (.slice none 0 0) (.int .i64 ln) (.int .i64 pr) (.int .i64 ac) (.slice aa n ca)
    have hB : Below w.heap.size w wa := bl_step (bl_step (bl_step HB0.out (Below.refl w0.heap.size w0).drew) hbk) hba
    have hm1 : w0.drew.heap.size ≤ wk.heap.size := hbk.size
    have HE : Hid (OwnNil w _ kn n ln pr ac ks xs (.returned (EV ak kn ck none 0 0 ln pr ac aa n ca))) := ⟨ak, ck, aa, ca, rfl,
      lst_own hok hnk hck HK0.out.nums hlt hba h0, lst_own hoa hna hca HX0.out.nums (by omega) (Below.refl _ _) (by omega),
      (((((hB.setCell (p := ⟨w.heap.size + 1, 0, none⟩) (by simp) (.slice ak kn ck)).setCell (p := ⟨w.heap.size + 1, 1, none⟩) (by simp) (.slice none 0 0)).setCell (p := ⟨w.heap.size + 1, 2, none⟩) (by simp) (.int .i64 ln)).setCell (p := ⟨w.heap.size + 1, 3, none⟩) (by simp) (.int .i64 pr)).setCell (p := ⟨w.heap.size + 1, 4, none⟩) (by simp) (.int .i64 ac)).setCell (p := ⟨w.heap.size + 1, 5, none⟩) (by simp) (.slice aa n ca)⟩
    obtain ⟨s0, s1, s2, s3, s4, s5, _, _, _, _, _, _⟩ := hS
    clear hok hoa hbk hba hB
    go_wp2
    exact bodyPost_ret (v := EV ak kn ck none 0 0 ln pr ac aa n ca) (by simp [results, Try.results47, go_sem, s0, s1, s2, s3, s4, s5]) rfl HE.out
end Go.Proofs.Ytlnkfgdepddmlac
