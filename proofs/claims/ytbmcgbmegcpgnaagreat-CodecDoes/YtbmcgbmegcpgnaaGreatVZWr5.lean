import Derived.Test.YtbmcgbmegcpgnaaGreatVZWr4
set_option maxHeartbeats 8000000
set_option maxRecDepth 20000
set_option linter.unusedSimpArgs false
namespace Go.Proofs.YtbmcgbmegcpgnaaGreat
open Go.RowKit
def opL(x:OpD):List Int:=zk x.kind++(if x.kind=1 then zoZ x.r++zpc x.es else if x.kind=2 then zk x.head else if x.kind=3 then zk x.head else if x.kind=5 then zpc x.es else if x.kind=6 then zoZ x.r++zk x.head else[])
theorem zuC(s:World)(p:Nat)(bs:List Int)(x:OpD)(w:World)(h:Wr s.heap.size p bs w)(a6:Below s.heap.size s w)(hx:wfI x.kind/\wfI x.r.h/\wfI x.r.f/\wfI x.head)(hr:QRow 4 PushD.lie s x.e x.es)(hn:x.e.n<=100000)(hl:(bs++opL x).length<=9000000):
 Calls Tryz.prog 105 #[.pointer (some ⟨p,0,none⟩),.agg #[.int .i64 x.kind,.int .i64 x.r.h,.int .i64 x.r.f,.int .i64 x.head,.slice x.e.a x.e.n x.e.c]] w (km s.heap.size p (bs++opL x) w):=by
 have W:Below w.heap.size w (w.alloc (.cells #[.int .i64 x.kind,.int .i64 x.r.h,.int .i64 x.r.f,.int .i64 x.head,.slice x.e.a x.e.n x.e.c] 59)):=ze (zof _ _);have N:=hid (kn s.heap.size p bs x.kind _ hx.1 (h.step W) (by rw[opL,<-List.append_assoc,List.length_append]at hl;omega))
 have a5:=zpw w #[.int .i64 x.kind,.int .i64 x.r.h,.int .i64 x.r.f,.int .i64 x.head,.slice x.e.a x.e.n x.e.c] 59;have Q:w.heap.size≠p:=by have:=h.pl;omega
 have HD:Hid (∀t,Wr s.heap.size p (bs++zk x.kind) t->Below s.heap.size (w.alloc (.cells #[.int .i64 x.kind,.int .i64 x.r.h,.int .i64 x.r.f,.int .i64 x.head,.slice x.e.a x.e.n x.e.c] 59)) t->Fram p (w.alloc (.cells #[.int .i64 x.kind,.int .i64 x.r.h,.int .i64 x.r.f,.int .i64 x.head,.slice x.e.a x.e.n x.e.c] 59)) t->Below s.heap.size w t/\Fram p w t/\t.heap[w.heap.size]?=some (.cells #[.int .i64 x.kind,.int .i64 x.r.h,.int .i64 x.r.f,.int .i64 x.head,.slice x.e.a x.e.n x.e.c] 59 (0,0))):=fun t d i g=>
  ⟨(W.mono h.bl).trans i,(Fram.below W).trans g,g.2 _ _ _ _ Q (by decide) a5⟩
 have K:=hid hl;have HX:=hid hx;have HW:=hid a6;have HR:=hid hr;have G:=hid Q;clear h hl hx W a5 a6 hr Q;by_cases H:x.kind=1
 ·have e1:(x.kind==1)=true:=by simpa using H
  have I:=hid H;have u:Hid True:=trivial;clear H;have es:opL x=zk x.kind++(zoZ x.r++zpc x.es):=by unfold opL;rw[if_pos I.out]
  rw[es]at K ⊢;clear es u I;go_enter Tryz.func105,Tryz.ntmps105
  go_wp2_with fail
  refine N.out.mono ?_;rintro e t ⟨rfl,d,i,g⟩;obtain⟨F,f1,b⟩:=HD.out t d i g;have E:=hid b;have M:=hid F;have R:=hid f1;have T:=hid d;have j:=zd b 0;have k:=zd b 1;have o:=zd b 2;have l:=zd b 3;have m:=zd b 4;simp only[List.getElem?_toArray,List.getElem?_cons_zero,List.getElem?_cons_succ]at j k o l m;clear d i g F f1 b N HD;have q:=hid (zqi s.heap.size p _ x.r t ⟨HX.out.2.1,HX.out.2.2.1⟩ T.out (by have:=K.out;simp only[List.length_append]at this ⊢;omega))
  go_wp2_with fail
  refine q.out.mono ?_;rintro e w2 ⟨rfl,d,i,g⟩;have U:=hid (M.out.trans i);have X:=hid (R.out.trans g);have Y:=hid d;have ha:=g.2 _ _ _ _ G.out (by decide) E.out
  have J:=hid ha;have y:=zd ha 0;have A:=zd ha 1;have C:=zd ha 2;have B:=zd ha 3;have D:=zd ha 4;simp only[List.getElem?_toArray,List.getElem?_cons_zero,List.getElem?_cons_succ]at y A C B D;clear d i g ha q j k o l m;have S:=hid (zrL s p _ x.e x.es w2 Y.out (HW.out.trans U.out) HR.out hn (by have:=K.out;simp only[List.length_append]at this ⊢;omega))
  go_wp2_with fail
  refine S.out.mono ?_;rintro e w3 ⟨rfl,d,i,g⟩;have B3:=hid (U.out.trans i);have F3:=hid (X.out.trans g);have H3:=hid d;have ha:=g.2 _ _ _ _ G.out (by decide) J.out
  have a7:=hid ha;have a3:=zd ha 0;have a0:=zd ha 1;have a1:=zd ha 2;have a4:=zd ha 3;have a2:=zd ha 4;simp only[List.getElem?_toArray,List.getElem?_cons_zero,List.getElem?_cons_succ]at a3 a0 a1 a4 a2;clear d i g ha S y A C B D;have O:Hid (km s.heap.size p (bs++(zk x.kind++(zoZ x.r++zpc x.es))) w (.returned (.tuple #[])) w3):=by
   have d:=H3.out;have P:Wr s.heap.size p (bs++(zk x.kind++(zoZ x.r++zpc x.es))) w3:=by simpa only[List.append_assoc]using d
   exact⟨rfl,P,B3.out,F3.out⟩
  go_wp2;go_end0
  exact O.out
 have e1:(x.kind==1)=false:=by simpa using H
 by_cases L:x.kind=2
 ·have e2:(x.kind==2)=true:=by simpa using L
  have I:=hid L;have u:Hid (¬x.kind=1/\True):=⟨H,trivial⟩;clear H L;have es:opL x=zk x.kind++zk x.head:=by unfold opL;rw[if_neg u.out.1,if_pos I.out]
  rw[es]at K ⊢;clear es u I;go_enter Tryz.func105,Tryz.ntmps105
  go_wp2_with fail
  refine N.out.mono ?_;rintro e t ⟨rfl,d,i,g⟩;obtain⟨F,f1,b⟩:=HD.out t d i g;have E:=hid b;have M:=hid F;have R:=hid f1;have T:=hid d;have j:=zd b 0;have k:=zd b 1;have o:=zd b 2;have l:=zd b 3;have m:=zd b 4;simp only[List.getElem?_toArray,List.getElem?_cons_zero,List.getElem?_cons_succ]at j k o l m;clear d i g F f1 b N HD;have q:=hid (kn s.heap.size p _ x.head t HX.out.2.2.2 T.out (by have:=K.out;simp only[List.length_append]at this ⊢;omega))
  go_wp2_with fail
  refine q.out.mono ?_;rintro e w2 ⟨rfl,d,i,g⟩;have U:=hid (M.out.trans i);have X:=hid (R.out.trans g);have Y:=hid d;have ha:=g.2 _ _ _ _ G.out (by decide) E.out
  have J:=hid ha;have y:=zd ha 0;have A:=zd ha 1;have C:=zd ha 2;have B:=zd ha 3;have D:=zd ha 4;simp only[List.getElem?_toArray,List.getElem?_cons_zero,List.getElem?_cons_succ]at y A C B D;clear d i g ha q j k o l m;have O:Hid (km s.heap.size p (bs++(zk x.kind++zk x.head)) w (.returned (.tuple #[])) w2):=by
   have d:=Y.out;have P:Wr s.heap.size p (bs++(zk x.kind++zk x.head)) w2:=by simpa only[List.append_assoc]using d
   exact⟨rfl,P,U.out,X.out⟩
  go_wp2;go_end0
  exact O.out
 have e2:(x.kind==2)=false:=by simpa using L
 by_cases V:x.kind=3
 ·have e3:(x.kind==3)=true:=by simpa using V
  have I:=hid V;have u:Hid (¬x.kind=1/\¬x.kind=2/\True):=⟨H,L,trivial⟩;clear H L V;have es:opL x=zk x.kind++zk x.head:=by unfold opL;rw[if_neg u.out.1,if_neg u.out.2.1,if_pos I.out]
  rw[es]at K ⊢;clear es u I;go_enter Tryz.func105,Tryz.ntmps105
  go_wp2_with fail
  refine N.out.mono ?_;rintro e t ⟨rfl,d,i,g⟩;obtain⟨F,f1,b⟩:=HD.out t d i g;have E:=hid b;have M:=hid F;have R:=hid f1;have T:=hid d;have j:=zd b 0;have k:=zd b 1;have o:=zd b 2;have l:=zd b 3;have m:=zd b 4;simp only[List.getElem?_toArray,List.getElem?_cons_zero,List.getElem?_cons_succ]at j k o l m;clear d i g F f1 b N HD;have q:=hid (kn s.heap.size p _ x.head t HX.out.2.2.2 T.out (by have:=K.out;simp only[List.length_append]at this ⊢;omega))
  go_wp2_with fail
  refine q.out.mono ?_;rintro e w2 ⟨rfl,d,i,g⟩;have U:=hid (M.out.trans i);have X:=hid (R.out.trans g);have Y:=hid d;have ha:=g.2 _ _ _ _ G.out (by decide) E.out
  have J:=hid ha;have y:=zd ha 0;have A:=zd ha 1;have C:=zd ha 2;have B:=zd ha 3;have D:=zd ha 4;simp only[List.getElem?_toArray,List.getElem?_cons_zero,List.getElem?_cons_succ]at y A C B D;clear d i g ha q j k o l m;have O:Hid (km s.heap.size p (bs++(zk x.kind++zk x.head)) w (.returned (.tuple #[])) w2):=by
   have d:=Y.out;have P:Wr s.heap.size p (bs++(zk x.kind++zk x.head)) w2:=by simpa only[List.append_assoc]using d
   exact⟨rfl,P,U.out,X.out⟩
  go_wp2;go_end0
  exact O.out
 have e3:(x.kind==3)=false:=by simpa using V
 by_cases Z:x.kind=5
 ·have e5:(x.kind==5)=true:=by simpa using Z
  have I:=hid Z;have u:Hid (¬x.kind=1/\¬x.kind=2/\¬x.kind=3/\True):=⟨H,L,V,trivial⟩;clear H L V Z;have es:opL x=zk x.kind++zpc x.es:=by unfold opL;rw[if_neg u.out.1,if_neg u.out.2.1,if_neg u.out.2.2.1,if_pos I.out]
  rw[es]at K ⊢;clear es u I;go_enter Tryz.func105,Tryz.ntmps105
  go_wp2_with fail
  refine N.out.mono ?_;rintro e t ⟨rfl,d,i,g⟩;obtain⟨F,f1,b⟩:=HD.out t d i g;have E:=hid b;have M:=hid F;have R:=hid f1;have T:=hid d;have j:=zd b 0;have k:=zd b 1;have o:=zd b 2;have l:=zd b 3;have m:=zd b 4;simp only[List.getElem?_toArray,List.getElem?_cons_zero,List.getElem?_cons_succ]at j k o l m;clear d i g F f1 b N HD;have q:=hid (zrL s p _ x.e x.es t T.out (HW.out.trans M.out) HR.out hn (by have:=K.out;simp only[List.length_append]at this ⊢;omega))
  go_wp2_with fail
  refine q.out.mono ?_;rintro e w2 ⟨rfl,d,i,g⟩;have U:=hid (M.out.trans i);have X:=hid (R.out.trans g);have Y:=hid d;have ha:=g.2 _ _ _ _ G.out (by decide) E.out
  have J:=hid ha;have y:=zd ha 0;have A:=zd ha 1;have C:=zd ha 2;have B:=zd ha 3;have D:=zd ha 4;simp only[List.getElem?_toArray,List.getElem?_cons_zero,List.getElem?_cons_succ]at y A C B D;clear d i g ha q j k o l m;have O:Hid (km s.heap.size p (bs++(zk x.kind++zpc x.es)) w (.returned (.tuple #[])) w2):=by
   have d:=Y.out;have P:Wr s.heap.size p (bs++(zk x.kind++zpc x.es)) w2:=by simpa only[List.append_assoc]using d
   exact⟨rfl,P,U.out,X.out⟩
  go_wp2;go_end0
  exact O.out
 have e5:(x.kind==5)=false:=by simpa using Z
 by_cases k6:x.kind=6
 ·have e6:(x.kind==6)=true:=by simpa using k6
  have I:=hid k6;have u:Hid (¬x.kind=1/\¬x.kind=2/\¬x.kind=3/\¬x.kind=5/\True):=⟨H,L,V,Z,trivial⟩;clear H L V Z k6;have es:opL x=zk x.kind++(zoZ x.r++zk x.head):=by unfold opL;rw[if_neg u.out.1,if_neg u.out.2.1,if_neg u.out.2.2.1,if_neg u.out.2.2.2.1,if_pos I.out]
  rw[es]at K ⊢;clear es u I;go_enter Tryz.func105,Tryz.ntmps105
  go_wp2_with fail
  refine N.out.mono ?_;rintro e t ⟨rfl,d,i,g⟩;obtain⟨F,f1,b⟩:=HD.out t d i g;have E:=hid b;have M:=hid F;have R:=hid f1;have T:=hid d;have j:=zd b 0;have k:=zd b 1;have o:=zd b 2;have l:=zd b 3;have m:=zd b 4;simp only[List.getElem?_toArray,List.getElem?_cons_zero,List.getElem?_cons_succ]at j k o l m;clear d i g F f1 b N HD;have q:=hid (zqi s.heap.size p _ x.r t ⟨HX.out.2.1,HX.out.2.2.1⟩ T.out (by have:=K.out;simp only[List.length_append]at this ⊢;omega))
  go_wp2_with fail
  refine q.out.mono ?_;rintro e w2 ⟨rfl,d,i,g⟩;have U:=hid (M.out.trans i);have X:=hid (R.out.trans g);have Y:=hid d;have ha:=g.2 _ _ _ _ G.out (by decide) E.out
  have J:=hid ha;have y:=zd ha 0;have A:=zd ha 1;have C:=zd ha 2;have B:=zd ha 3;have D:=zd ha 4;simp only[List.getElem?_toArray,List.getElem?_cons_zero,List.getElem?_cons_succ]at y A C B D;clear d i g ha q j k o l m;have S:=hid (kn s.heap.size p _ x.head w2 HX.out.2.2.2 Y.out (by have:=K.out;simp only[List.length_append]at this ⊢;omega))
  go_wp2_with fail
  refine S.out.mono ?_;rintro e w3 ⟨rfl,d,i,g⟩;have B3:=hid (U.out.trans i);have F3:=hid (X.out.trans g);have H3:=hid d;have ha:=g.2 _ _ _ _ G.out (by decide) J.out
  have a7:=hid ha;have a3:=zd ha 0;have a0:=zd ha 1;have a1:=zd ha 2;have a4:=zd ha 3;have a2:=zd ha 4;simp only[List.getElem?_toArray,List.getElem?_cons_zero,List.getElem?_cons_succ]at a3 a0 a1 a4 a2;clear d i g ha S y A C B D;have O:Hid (km s.heap.size p (bs++(zk x.kind++(zoZ x.r++zk x.head))) w (.returned (.tuple #[])) w3):=by
   have d:=H3.out;have P:Wr s.heap.size p (bs++(zk x.kind++(zoZ x.r++zk x.head))) w3:=by simpa only[List.append_assoc]using d
   exact⟨rfl,P,B3.out,F3.out⟩
  go_wp2;go_end0
  exact O.out
 have e6:(x.kind==6)=false:=by simpa using k6
 have u:Hid (¬x.kind=1/\¬x.kind=2/\¬x.kind=3/\¬x.kind=5/\¬x.kind=6/\True):=⟨H,L,V,Z,k6,trivial⟩;clear H L V Z k6;have es:opL x=zk x.kind:=by unfold opL;rw[if_neg u.out.1,if_neg u.out.2.1,if_neg u.out.2.2.1,if_neg u.out.2.2.2.1,if_neg u.out.2.2.2.2.1,List.append_nil]
 rw[es]at K ⊢;clear es u;go_enter Tryz.func105,Tryz.ntmps105
 go_wp2_with fail
 refine N.out.mono ?_;rintro e t ⟨rfl,d,i,g⟩;obtain⟨F,f1,b⟩:=HD.out t d i g;have E:=hid b;have M:=hid F;have R:=hid f1;have T:=hid d;have j:=zd b 0;have k:=zd b 1;have o:=zd b 2;have l:=zd b 3;have m:=zd b 4;simp only[List.getElem?_toArray,List.getElem?_cons_zero,List.getElem?_cons_succ]at j k o l m;clear d i g F f1 b N HD;have O:Hid (km s.heap.size p (bs++(zk x.kind)) w (.returned (.tuple #[])) t):=by
  have d:=T.out;have P:Wr s.heap.size p (bs++(zk x.kind)) t:=by simpa only[List.append_assoc]using d
  exact⟨rfl,P,M.out,R.out⟩
 go_wp2;go_end0
 exact O.out
end Go.Proofs.YtbmcgbmegcpgnaaGreat
