import Derived.Test.YtdajaaondlekfaaGreatG4
import Derived.Deep.RegionHeld3
import Derived.Deep.MidRow
import Derived.Test.YtdajaaondlekfaaGreatG6
set_option maxHeartbeats 8000000
set_option maxRecDepth 20000
set_option linter.unusedSimpArgs false
namespace Go.Proofs.YtdajaaondlekfaaGreat
open Go.RowKit
structure Five (w : World) (g o : Nat) (s : Wk.Sets) : Prop where
 c0 : w.cell? ⟨g, o, none⟩ = some (.int .u64 (s.must : Int))
 c1 : w.cell? ⟨g, o + 1, none⟩ = some (.int .u64 (s.may : Int))
 c2 : w.cell? ⟨g, o + 2, none⟩ = some (.int .i64 (s.least : Int))
 c3 : w.cell? ⟨g, o + 3, none⟩ = some (.int .i64 (s.most : Int))
 c4 : w.cell? ⟨g, o + 4, none⟩ = some (.bool s.there)
theorem Five.step{w w':World}{g o:Nat}{s:Wk.Sets}(h:Five w g o s)(b:Below w.heap.size w w'):Five w' g o s:=
 ⟨za h.c0 b,za h.c1 b,za h.c2 b,za h.c3 b,za h.c4 b⟩
structure But (g : Nat) (w w' : World) : Prop where
 low : Below g w w'
 up : ∀ k, k < w.heap.size -> k ≠ g -> w'.heap[k]? = w.heap[k]?
theorem But.refl(g:Nat)(w:World):But g w w:=⟨zof _ _,fun _ _ _=>rfl⟩
theorem But.trans{g:Nat}{a b c:World}(h:But g a b)(k:But g b c):But g a c:=
 ⟨h.low.trans k.low,fun i hi d=>(k.up i (zom hi h.low.size) d).trans (h.up i hi d)⟩
theorem But.of{g:Nat}{w w':World}(h:Below w.heap.size w w')(a:g<=w.heap.size):But g w w':=⟨h.mono a,fun k b _=>h.block k b⟩
theorem But.cell{g:Nat}{w w':World}(h:But g w w'){k o:Nat}{v:Value}(c:k≠g)(a:w.cell? ⟨k,o,none⟩=some v):w'.cell? ⟨k,o,none⟩=some v:=by
 have b:=zog w _ a;have e:=h.up k b c;simp only[World.cell?]at a ⊢;rw[e];exact a
theorem But.frozen{g:Nat}{w w':World}(h:But g w w'){k o:Nat}(b:k≠g)(a:k<w.heap.size):w'.frozen? ⟨k,o,none⟩=w.frozen? ⟨k,o,none⟩:=by
 simp only[World.frozen?,h.up k a b]
theorem But.five{g:Nat}{w w':World}(h:But g w w'){k o:Nat}{s:Wk.Sets}(a:k≠g)(hf:Five w k o s):Five w' k o s:=
 ⟨h.cell a hf.c0,h.cell a hf.c1,h.cell a hf.c2,h.cell a hf.c3,h.cell a hf.c4⟩
theorem But.size{g:Nat}{w w':World}(h:But g w w'):w.heap.size<=w'.heap.size:=h.low.size
structure Ahd (g : Nat) (A : List Wk.Sets) (w : World) : Prop where
 cs : ∀ i s, A[i]? = some s -> Five w g (i * 5) s
 fz : ∀ o, w.frozen? ⟨g, o, none⟩ = false
 lt : g < w.heap.size
theorem Ahd.step{w w':World}{g:Nat}{A:List Wk.Sets}(h:Ahd g A w)(b:Below w.heap.size w w'):Ahd g A w':=
 ⟨fun i s hs=>(h.cs i s hs).step b,fun o=>(b.frozen (p:=⟨g,o,none⟩) h.lt).trans (h.fz o),zom h.lt b.size⟩
@[reducible] def ziH(w:World)(g o:Nat)(s:Wk.Sets):World:=((((w.setCell ⟨g,o,none⟩ (.int .u64 (s.must:Int))).setCell ⟨g,o+1,none⟩ (.int .u64 (s.may:Int))).setCell ⟨g,o+2,none⟩ (.int .i64 (s.least:Int))).setCell ⟨g,o+3,none⟩ (.int .i64 (s.most:Int))).setCell ⟨g,o+4,none⟩ (.bool s.there)
theorem zp{w:World}{g o p:Nat}{v:Value}{u:Option Value}(h:w.cell? ⟨g,p,none⟩=u)(a:o≠p):(w.setCell ⟨g,o,none⟩ v).cell? ⟨g,p,none⟩=u:=by
 rw[zou _ _ _ _ (by intro e;simp only[Addr.mk.injEq]at e;omega)]
 exact h
theorem zkN{w:World}{g o p:Nat}{s:Wk.Sets}(a:p<o\/o+5<=p):(ziH w g o s).cell? ⟨g,p,none⟩=w.cell? ⟨g,p,none⟩:=
 zp (zp (zp (zp (zp rfl (by omega)) (by omega)) (by omega)) (by omega)) (by omega)
theorem ziI{w:World}{g o:Nat}{s x:Wk.Sets}(h:Five w g o x):Five (ziH w g o s) g o s:=by
 refine⟨?_,?_,?_,?_,?_⟩
 ·exact zp (zp (zp (zp (zot _ _ _ h.c0) (by omega)) (by omega)) (by omega)) (by omega)
 ·exact zp (zp (zp (zot _ _ _ (zp h.c1 (by omega))) (by omega)) (by omega)) (by omega)
 ·exact zp (zp (zot _ _ _ (zp (zp h.c2 (by omega)) (by omega))) (by omega)) (by omega)
 ·exact zp (zot _ _ _ (zp (zp (zp h.c3 (by omega)) (by omega)) (by omega))) (by omega)
 ·exact zot _ _ _ (zp (zp (zp (zp h.c4 (by omega)) (by omega)) (by omega)) (by omega))
theorem set_but{w:World}{g o:Nat}{v:Value}:But g w (w.setCell ⟨g,o,none⟩ v):=
 ⟨(zof g w).setCell (p:=⟨g,o,none⟩) (zos g) _,fun _ _ a=>zop _ _ _ _ a⟩
theorem zkO(w:World)(g o:Nat)(s:Wk.Sets):But g w (ziH w g o s):=set_but.trans (set_but.trans (set_but.trans (set_but.trans set_but)))
theorem zkP{g:Nat}{A:List Wk.Sets}{w:World}{j:Nat}{x:Wk.Sets}(h:Ahd g A w)(b:A[j]?=some x)(s:Wk.Sets):Ahd g (A.set j s) (ziH w g (j*5) s):=by
 refine⟨fun i y a=>?_,fun o=>?_,?_⟩
 ·rw[List.getElem?_set]at a;by_cases e:j=i
  ·subst e;rw[if_pos rfl,if_pos (zok.1 b).1]at a;cases a
   exact ziI (h.cs j x b)
  ·rw[if_neg e]at a;have hf:=h.cs i y a;have far:∀k,k<5->(ziH w g (j*5) s).cell? ⟨g,i*5+k,none⟩=w.cell? ⟨g,i*5+k,none⟩:=fun k c=>zkN (by omega)
   exact⟨(far 0 (by decide)).trans hf.c0,(far 1 (by decide)).trans hf.c1,(far 2 (by decide)).trans hf.c2,(far 3 (by decide)).trans hf.c3,(far 4 (by decide)).trans hf.c4⟩
 ·simp only[World.frozen?_setCell];exact h.fz o
 ·simp only[zow];exact h.lt
structure WkB (d : PlanD) (q g : Nat) (w : World) : Prop where
 h0 : w.cell? ⟨q, 0, none⟩ = some (.slice d.heads.a d.heads.n d.heads.c)
 h2 : w.cell? ⟨q, 2, none⟩ = some (.slice d.states.a d.states.n d.states.c)
 h7 : w.cell? ⟨q, 7, none⟩ = some (.slice (some ⟨g, 0, none⟩) (d.states.n + 1) (d.states.n + 1))
 ne : q ≠ g
theorem WkB.step{d:PlanD}{q g:Nat}{w w':World}(h:WkB d q g w)(b:Below w.heap.size w w'):WkB d q g w':=⟨za h.h0 b,za h.h2 b,za h.h7 b,h.ne⟩
theorem WkB.but{d:PlanD}{q g:Nat}{w w':World}(h:WkB d q g w)(b:But g w w'):WkB d q g w':=⟨b.cell h.ne h.h0,b.cell h.ne h.h2,b.cell h.ne h.h7,h.ne⟩
def xP(n:Nat)(A:List Wk.Sets)(s:Wk.Sets)(to:Int):List Wk.Sets:=if to=1001 then A else A.set (yZ n to) (Wk.joinS (A.getD (yZ n to) Wk.zero) s)
def jA(g:Nat)(A:List Wk.Sets)(w:World)(e:Ending)(w':World):Prop:=e=.returned (.tuple #[])/\Ahd g A w'/\But g w w'
theorem zl7{d:PlanD}{q g:Nat}{A:List Wk.Sets}{w:World}(s x:Wk.Sets)(to:Int)(j:Nat)(hb:WkB d q g w)(ha:Ahd g A w)(hs:s.few)(hx:x.few)(y:A[j]?=some x)(hl:A.length=d.states.n+1)(Q:to≠1001)(h2:to=1000/\j=d.states.n\/to≠1000/\to=(j:Int)):
 Calls Tryz.prog 147 #[.pointer (some ⟨q,0,none⟩),.int .i64 to,s.v] w (jA g (A.set j (Wk.joinS x s)) w):=by
 have S:j<d.states.n+1:=by have:=(zok.1 y).1;omega
 obtain⟨m,hmm⟩:∃m,m=d.states.n+1:=⟨_,rfl⟩;obtain⟨f,hW⟩:∃f,f=w.alloc (.cells #[.int .u64 (s.must:Int),.int .u64 (s.may:Int),.int .i64 (s.least:Int),.int .i64 (s.most:Int),.bool s.there] 157):=⟨_,rfl⟩;have G:Below w.heap.size w f:=by rw[hW];exact ze (zof _ _)
 have O:Five f w.heap.size 0 s:=by rw[hW];refine⟨?_,?_,?_,?_,?_⟩<;>exact(zod _ _ _ _ rfl).trans rfl
 have M:=hb.step G;have l:=ha.step G;obtain⟨z0,W,I,C⟩:=M;obtain⟨U,x1,Z,X,Y⟩:=l.cs j x y;obtain⟨y0,y1,K,F,J⟩:=O;have t:Below f.heap.size f f.drew:=(zof _ _).drew;have V:Hid (Calls Tryz.prog 186 #[.agg #[.int .u64 (x.must:Int),.int .u64 (x.may:Int),.int .i64 (x.least:Int),.int .i64 (x.most:Int),.bool x.there],.agg #[.int .u64 (s.must:Int),.int .u64 (s.may:Int),.int .i64 (s.least:Int),.int .i64 (s.most:Int),.bool s.there]] f.drew fun e N=>e=.returned (.agg #[.int .u64 ((Wk.joinS x s).must:Int),.int .u64 ((Wk.joinS x s).may:Int),.int .i64 ((Wk.joinS x s).least:Int),.int .i64 ((Wk.joinS x s).most:Int),.bool (Wk.joinS x s).there])/\Below f.drew.heap.size f.drew N):=zkY x s hx hs f.drew
 have H:Hid (∀w',Below f.heap.size f w'->jA g (A.set j (Wk.joinS x s)) w (.returned (.tuple #[])) (ziH w' g (j*5) (Wk.joinS x s))):=fun w' h=>⟨rfl,zkP (l.step h) y _,(But.of (zh G h) (Nat.le_of_lt ha.lt)).trans (zkO _ _ _ _)⟩
 have P:=hid l;have L:=hid hW;obtain⟨b,hbb⟩:∃b,b=w.heap.size:=⟨_,rfl⟩;rw[<-hbb]at y0 y1 K F J;simp only[zoK]at y1 K F J;have E:=hid hbb;have D:b≠g:=by have:=ha.lt;omega
 have a1:(j:Int)<(m:Int):=by omega
 have a0:(0:Int)<=(j:Int):=by omega
 rw[<-hmm]at I;have HC:Hid (∀w',Below f.heap.size f w'->w'.cell? ⟨q,7,none⟩=some (.slice (some ⟨g,0,none⟩) m m)/\Five w' g (j*5) x/\∀o,w'.frozen? ⟨g,o,none⟩=false):=fun w' h=>⟨za I h,(P.out.step h).cs j x y,(P.out.step h).fz⟩
 have R:∀o,(w.alloc o).cell? ⟨q,2,none⟩=some (.slice d.states.a d.states.n d.states.c):=fun o=>za hb.h2 (ze (zof _ _))
 generalize Wk.joinS x s=r at*;clear hb ha hW hbb hs hx l y hl S hmm P G;rcases h2 with⟨rfl,B⟩|⟨h2,rfl⟩
 ·have k3:∀o,(w.alloc o).cell? ⟨q,2,none⟩=some (.slice d.states.a j d.states.c):=fun o=>by rw[B];exact R o
  clear B Q D C z0 W R;go_enter Tryz.func147,Tryz.ntmps147
  go_wp2_with fail
  rw[<-L.out,<-E.out];clear L E;go_region_with (go_at_call 186;refine V.out.mono ?_;rintro e wx ⟨rfl,k⟩;have u:=hid (zh t k);obtain⟨t7,⟨t0,t1,t2,t3,t4⟩,i⟩:=HC.out _ u.out;have f0:=i (j*5);have f1:=i (j*5+1);have f2:=i (j*5+2);have f3:=i (j*5+3);have f4:=i (j*5+4);clear k i U x1 Z X Y y0 y1 K F J I t k3)
  all_goals
   have T:=hid (H.out _ u.out);clear u HC H;go_wp2;go_end0
   exact T.out
 ·have e1:((j:Int)==1001)=false:=by rw[beq_eq_false_iff_ne];exact Q
  have e2:((j:Int)==1000)=false:=by rw[beq_eq_false_iff_ne];exact h2
  clear Q h2 D C z0 W;go_enter Tryz.func147,Tryz.ntmps147
  go_wp2_with fail
  rw[<-L.out,<-E.out];clear L E;go_region_with (go_at_call 186;refine V.out.mono ?_;rintro e wx ⟨rfl,k⟩;have u:=hid (zh t k);obtain⟨t7,⟨t0,t1,t2,t3,t4⟩,i⟩:=HC.out _ u.out;have f0:=i (j*5);have f1:=i (j*5+1);have f2:=i (j*5+2);have f3:=i (j*5+3);have f4:=i (j*5+4);clear k i U x1 Z X Y y0 y1 K F J I t R)
  all_goals
   have T:=hid (H.out _ u.out);clear u HC H;go_wp2;go_end0
   exact T.out
theorem zhl(m h:Nat):m&&& 2^h=0↔m.testBit h=false:=by
 constructor
 ·intro e;have:=congrArg (Nat.testBit · h) e;simpa[Nat.testBit_and,Nat.testBit_two_pow_self]using this
 ·intro e;refine Nat.eq_of_testBit_eq fun k=>?_
  rw[Nat.testBit_and,Nat.testBit_two_pow,Nat.zero_testBit];by_cases a:h=k
  ·subst a;simp[e]
  ·simp[a]
theorem zgz(M h:Nat)(b:M<18446744073709551616)(a:h<64):2^h&&& (18446744073709551615-M)=0↔M.testBit h=true:=by
 have e:18446744073709551615-M=2^64-(M+1):=by omega
 rw[e,Nat.and_comm,zhl,Nat.testBit_two_pow_sub_succ (by omega)]
 simp[a]
theorem zbu(m:Nat)(h:Int):m&&& zv h=0↔¬(0<=h/\m.testBit h.toNat=true):=by
 unfold zv;by_cases e:h<0
 ·rw[if_pos e,Nat.and_zero];exact⟨fun _ h=>by omega,fun _=>rfl⟩
 ·rw[if_neg e,zhl];constructor
  ·rintro a ⟨_,h2⟩;rw[a]at h2;cases h2
  ·intro a;cases h2:m.testBit h.toNat with
   |false=>rfl
   |true=>exact absurd ⟨by omega,h2⟩ a
theorem ziN(m:Nat)(h r:Int)(j:m<2^6)(g:h<6)(hr:r<6):bits .andNot .u64 (zv r:Int) ((m|||zv h:Nat):Int)=0↔¬(0<=r/\r≠h/\m.testBit r.toNat=false):=by
 have hb:∀x:Int,x<6->zv x<2^6:=fun x n=>by
  unfold zv;split
  ·decide
  ·exact Nat.pow_lt_pow_right (by decide) (by omega)
 have l:m|||zv h<2^6:=Nat.or_lt_two_pow j (hb h g)
 rw[u64_andNot_nat _ _ (by have:=hb r hr;omega) (by omega)]
 by_cases e:r<0
 ·have:zv r=0:=by unfold zv;rw[if_pos e]
  rw[this,Nat.zero_and];exact⟨fun _ h=>by omega,fun _=>rfl⟩
 ·have i:zv r=2^r.toNat:=by unfold zv;rw[if_neg e]
  rw[i];have a:=zgz (m|||zv h) r.toNat (by omega) (by omega)
  rw[Nat.testBit_or]at a;have d:(zv h).testBit r.toNat=decide (r=h):=by
   unfold zv;by_cases f:h<0
   ·rw[if_pos f,Nat.zero_testBit];exact(zoX (by omega)).symm
   ·rw[if_neg f,Nat.testBit_two_pow];by_cases b:r=h
    ·subst b;simp
    ·rw[zoX b];exact zoX (by omega)
  rw[d,Bool.or_eq_true,decide_eq_true_eq]at a;constructor
  ·rintro h0 ⟨_,k,h2⟩;rcases a.1 (by omega)with c|c
   ·rw[h2]at c;cases c
   ·exact k c
  ·intro h0;have:m.testBit r.toNat=true\/r=h:=by
    by_cases b:r=h
    ·exact .inr b
    ·cases h2:m.testBit r.toNat with
     |true=>exact .inl rfl
     |false=>exact absurd ⟨by omega,b,h2⟩ h0
   have:=a.2 this;omega
@[reducible] def ziO(q:Nat)(x:StateD)(s:Wk.Sets):Value:=.agg #[.pointer (some ⟨q,0,none⟩),.int .i64 x.head,.int .i64 x.r.h,.int .i64 x.r.f,.slice x.cases.a x.cases.n x.cases.c,.int .i64 x.els,.int .u64 (s.must:Int),.int .u64 (s.may:Int),.int .i64 (s.least:Int),.int .i64 (s.most:Int),.bool s.there]
@[reducible] def zkZ(q:Nat)(x:StateD)(s:Wk.Sets):Obj:=.cells #[.pointer (some ⟨q,0,none⟩),.int .i64 x.head,.int .i64 x.r.h,.int .i64 x.r.f,.slice x.cases.a x.cases.n x.cases.c,.int .i64 x.els,.int .u64 (s.must:Int),.int .u64 (s.may:Int),.int .i64 (s.least:Int),.int .i64 (s.most:Int),.bool s.there] 234
structure VisB (q : Nat) (x : StateD) (s : Wk.Sets) (b : Nat) (w : World) : Prop where
 c0 : w.cell? ⟨b, 0, none⟩ = some (.pointer (some ⟨q, 0, none⟩))
 c1 : w.cell? ⟨b, 1, none⟩ = some (.int .i64 x.head)
 c2 : w.cell? ⟨b, 2, none⟩ = some (.int .i64 x.r.h)
 c3 : w.cell? ⟨b, 3, none⟩ = some (.int .i64 x.r.f)
 c4 : w.cell? ⟨b, 4, none⟩ = some (.slice x.cases.a x.cases.n x.cases.c)
 c5 : w.cell? ⟨b, 5, none⟩ = some (.int .i64 x.els)
 c6 : w.cell? ⟨b, 6, none⟩ = some (.int .u64 (s.must : Int))
 c7 : w.cell? ⟨b, 7, none⟩ = some (.int .u64 (s.may : Int))
 c8 : w.cell? ⟨b, 8, none⟩ = some (.int .i64 (s.least : Int))
 c9 : w.cell? ⟨b, 9, none⟩ = some (.int .i64 (s.most : Int))
 c10 : w.cell? ⟨b, 10, none⟩ = some (.bool s.there)
theorem zc8(q:Nat)(x:StateD)(s:Wk.Sets)(w:World):VisB q x s w.heap.size (w.alloc (zkZ q x s)):=by
 refine⟨?_,?_,?_,?_,?_,?_,?_,?_,?_,?_,?_⟩<;>exact(zod _ _ _ _ rfl).trans rfl
theorem VisB.step{q:Nat}{x:StateD}{s:Wk.Sets}{b:Nat}{w w':World}(h:VisB q x s b w)(k:Below w.heap.size w w'):VisB q x s b w':=
 ⟨za h.c0 k,za h.c1 k,za h.c2 k,za h.c3 k,za h.c4 k,za h.c5 k,za h.c6 k,za h.c7 k,za h.c8 k,za h.c9 k,za h.c10 k⟩
theorem zgA(q:Nat)(x:StateD)(s:Wk.Sets)(w:World)(hs:s.few)(D:x.head<6)(hr:0<x.cases.n->x.r.h<6)(L:x.cs.length=x.cases.n):
 Calls Tryz.prog 145 #[ziO q x s] w fun e w'=>e=.returned (.int .i64 (yP x.p s))/\Below w.heap.size w w':=by
 have A:Hid (∀o,Below w.heap.size w (w.alloc o)):=fun o=>ze (zof _ _)
 have d:zv x.head<2^6:=by
  unfold zv;split
  ·decide
  ·exact Nat.pow_lt_pow_right (by decide) (by omega)
 have T:=kS s.may (zv x.head) (xm hs.ma) (xm d);have h2:=zbt s.must (zv x.head) (xm hs.mu) (xm d);have u:Hid (∀w',Calls Tryz.prog 185 #[.int .i64 x.head] w' fun e m=>e=.returned (.int .u64 (zv x.head))/\m=w'):=fun w'=>zc7 x.head D w'
 have C:=zbu s.may x.head;by_cases H:s.may&&& zv x.head=0
 ·have a:=C.1 H;have hd:((((s.may&&& zv x.head:Nat):Int)) !=0)=false:=by rw[H];rfl
  have j:yP x.p s=if 0<x.cs.length/\0<=x.r.h/\x.r.h≠x.head/\s.must.testBit x.r.h.toNat=false then 12 else 0:=by
   show(if 0<=x.head/\s.may.testBit x.head.toNat=true then(7:Int)else if 0<x.cs.length/\0<=x.r.h/\x.r.h≠x.head/\s.must.testBit x.r.h.toNat=false then 12 else 0)=_
   rw[if_neg a]
  by_cases B:0<x.cases.n
  ·have F:=ziN s.must x.head x.r.h hs.mu D (hr B);have M:Hid (∀w',Calls Tryz.prog 185 #[.int .i64 x.r.h] w' fun e m=>e=.returned (.int .u64 (zv x.r.h))/\m=w'):=fun w'=>zc7 x.r.h (hr B) w'
   obtain⟨V,hV⟩:∃V,V=bits .andNot .u64 (zv x.r.h:Int) ((s.must|||zv x.head:Nat):Int):=⟨_,rfl⟩
   rw[<-hV]at F;have U:=hid hV;have k:Hid (yP x.p s=if V=0 then 0 else 12):=by
    show _=_;rw[j];by_cases i:V=0
    ·rw[if_pos i,if_neg (fun h=>F.1 i h.2)]
    ·rw[if_neg i,if_pos ⟨by omega,Decidable.byContradiction fun h=>i (F.2 h)⟩]
   have J:decide ((0:Int)<(x.cases.n:Int))=true:=zoY (by omega)
   have K:decide (0<x.cases.n)=true:=zoY B;have Q:=hV.symm;clear C j F a hr L hs D d hV;generalize((s.may&&& zv x.head:Nat):Int)=M1 at*;generalize((s.must|||zv x.head:Nat):Int)=M2 at*
   generalize yP x.p s=R at*;obtain⟨l,eW⟩:∃l,l=w.alloc (zkZ q x s):=⟨_,rfl⟩;obtain⟨b,eb⟩:∃b,b=w.heap.size:=⟨_,rfl⟩;obtain⟨c0,c1,c2,c3,c4,c5,c6,c7,c8,c9,c10⟩:VisB q x s b l:=by rw[eW,eb];exact zc8 q x s w
   have g:Hid (Below w.heap.size w l):=by rw[eW];exact A.out _
   have E:=hid eW;have y:=hid eb;clear eW eb A;have O:=zm c2;have I:=zm c4;have S:=zm c6;go_enter Tryz.func145,Tryz.ntmps145
   go_wp2_with fail
   rw[<-E.out,<-y.out];clear E y;refine(u.out _).mono ?_;rintro e N ⟨rfl,rfl⟩;clear u;go_wp2_with fail
   haveI inhB:∀w:World,Inhabited (zq w):=fun w=>⟨⟨w,zof _ _⟩⟩
   refine zi (by kernel_rfl) (by kernel_rfl) ?_
   repeat (go_big_quiet_step (first|(go_at_call 185;exact zt _ (M.out _))))
   refine wpQuiet_nil ?_;intro _ t;obtain⟨⟨wq,c⟩,f⟩:=t;subst f;have G:=hid (zh g.out c);clear g c M O I S inhB;by_cases i:V=0
   ·rw[i]at k;rw[if_pos rfl]at k;subst i;go_wp2;go_ret;exact⟨by rw[k.out];rfl,G.out⟩
   ·rw[if_neg i]at k;have P:(V !=0)=true:=by rw[bne_iff_ne];exact i
    clear i;go_wp2;go_ret;exact⟨by rw[k.out];rfl,G.out⟩
  ·have k:Hid (yP x.p s=0):=by
    show _=_;rw[j,if_neg (by omega)]
   have J:decide ((0:Int)<(x.cases.n:Int))=false:=zoX (by omega)
   have K:decide (0<x.cases.n)=false:=zoX B;clear C j a hr L hs D d h2 B;generalize((s.may&&& zv x.head:Nat):Int)=M1 at*;generalize yP x.p s=R at*;obtain⟨l,eW⟩:∃l,l=w.alloc (zkZ q x s):=⟨_,rfl⟩;obtain⟨b,eb⟩:∃b,b=w.heap.size:=⟨_,rfl⟩;obtain⟨c0,c1,c2,c3,c4,c5,c6,c7,c8,c9,c10⟩:VisB q x s b l:=by rw[eW,eb];exact zc8 q x s w
   have g:Hid (Below w.heap.size w l):=by rw[eW];exact A.out _
   have E:=hid eW;have y:=hid eb;clear eW eb A;have I:=zm c4;go_enter Tryz.func145,Tryz.ntmps145
   go_wp2_with fail
   rw[<-E.out,<-y.out];clear E y;refine(u.out _).mono ?_;rintro e N ⟨rfl,rfl⟩;clear u;go_wp2_with fail
   haveI inhB:∀w:World,Inhabited (zq w):=fun w=>⟨⟨w,zof _ _⟩⟩
   refine zi (by kernel_rfl) (by kernel_rfl) ?_
   repeat (go_big_quiet_step (fail))
   refine wpQuiet_nil ?_;intro _ t;obtain⟨⟨wq,c⟩,f⟩:=t;subst f;have G:=hid (zh g.out c);clear g c I inhB;go_wp2;go_ret;exact⟨by rw[k.out];rfl,G.out⟩
 ·have a:0<=x.head/\s.may.testBit x.head.toNat=true:=Decidable.byContradiction fun h=>H (C.2 h)
  have hd:((((s.may&&& zv x.head:Nat):Int)) !=0)=true:=by rw[bne_iff_ne];omega
  have k:Hid (yP x.p s=7):=by
   show(if 0<=x.head/\s.may.testBit x.head.toNat=true then(7:Int)else if 0<x.cs.length/\0<=x.r.h/\x.r.h≠x.head/\s.must.testBit x.r.h.toNat=false then 12 else 0)=7
   rw[if_pos a]
  clear C H a hr L hs D d h2;generalize((s.may&&& zv x.head:Nat):Int)=M1 at*;generalize yP x.p s=R at*;go_enter Tryz.func145,Tryz.ntmps145
  go_wp2_with fail
  refine(u.out _).mono ?_;rintro e N ⟨rfl,rfl⟩;clear u;go_wp2;go_ret;exact⟨by rw[k.out];rfl,A.out _⟩
end Go.Proofs.YtdajaaondlekfaaGreat
