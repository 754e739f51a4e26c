import Derived.Test.YtbmcgbmegcpgnaaGreatVQJ2
import Derived.Test.YtbmcgbmegcpgnaaGreatG1
set_option maxHeartbeats 8000000
set_option maxRecDepth 20000
set_option linter.unusedSimpArgs false
namespace Go.Proofs.YtbmcgbmegcpgnaaGreat
open Go.RowKit
def yn(p:PPlan)(r:RefD)(n:Int)(c:CaseD):Int:=if p.width r []<ku c.mask\/bits .andNot .u64 c.value c.mask≠0 then 6 else yF p.ss.length n c.to
theorem zjX(d:PlanD)(x:StateD)(n:Int)(c:CaseD)(w:World)(J:d.lie w)(M:0<=c.mask/\c.mask<18446744073709551616):
 Calls Tryz.prog 90 #[LV d x n,.agg #[.int .u64 c.value,.int .u64 c.mask,.int .i64 c.to]] w fun e w'=>e=.returned (.int .i64 (yn d.p x.r n c))/\Below w.heap.size w w':=by
 obtain⟨g,hW⟩:∃g,g=((w.alloc (.cells #[.slice d.heads.a d.heads.n d.heads.c,.slice d.mta.a d.mta.n d.mta.c,.slice d.states.a d.states.n d.states.c,.slice d.acts.a d.acts.n d.acts.c,.slice d.tabs.a d.tabs.n d.tabs.c,.slice d.nodes.a d.nodes.n d.nodes.c,.slice d.out.a d.out.n d.out.c,.int .i64 x.head,.int .i64 x.r.h,.int .i64 x.r.f,.slice x.cases.a x.cases.n x.cases.c,.int .i64 x.els,.int .i64 n] 148)).alloc (.cells #[.int .u64 c.value,.int .u64 c.mask,.int .i64 c.to] 98)):=⟨_,rfl⟩;obtain⟨j,h0⟩:∃j,j=w.heap.size:=⟨_,rfl⟩;obtain⟨H,l⟩:∃H,H=w.heap.size+1:=⟨_,rfl⟩;have z0:g.cell? ⟨j,0,none⟩=some (.slice d.heads.a d.heads.n d.heads.c):=by rw[hW,h0];exact(zoe _ _ _ (by simp)).trans ((zod _ _ _ _ rfl).trans rfl)
 have z1:g.cell? ⟨j,1,none⟩=some (.slice d.mta.a d.mta.n d.mta.c):=by rw[hW,h0];exact(zoe _ _ _ (by simp)).trans ((zod _ _ _ _ rfl).trans rfl)
 have Z:g.cell? ⟨j,2,none⟩=some (.slice d.states.a d.states.n d.states.c):=by rw[hW,h0];exact(zoe _ _ _ (by simp)).trans ((zod _ _ _ _ rfl).trans rfl)
 have P:g.cell? ⟨j,3,none⟩=some (.slice d.acts.a d.acts.n d.acts.c):=by rw[hW,h0];exact(zoe _ _ _ (by simp)).trans ((zod _ _ _ _ rfl).trans rfl)
 have Y:g.cell? ⟨j,4,none⟩=some (.slice d.tabs.a d.tabs.n d.tabs.c):=by rw[hW,h0];exact(zoe _ _ _ (by simp)).trans ((zod _ _ _ _ rfl).trans rfl)
 have Q:g.cell? ⟨j,5,none⟩=some (.slice d.nodes.a d.nodes.n d.nodes.c):=by rw[hW,h0];exact(zoe _ _ _ (by simp)).trans ((zod _ _ _ _ rfl).trans rfl)
 have z6:g.cell? ⟨j,6,none⟩=some (.slice d.out.a d.out.n d.out.c):=by rw[hW,h0];exact(zoe _ _ _ (by simp)).trans ((zod _ _ _ _ rfl).trans rfl)
 have z7:g.cell? ⟨j,7,none⟩=some (.int .i64 x.head):=by rw[hW,h0];exact(zoe _ _ _ (by simp)).trans ((zod _ _ _ _ rfl).trans rfl)
 have z8:g.cell? ⟨j,8,none⟩=some (.int .i64 x.r.h):=by rw[hW,h0];exact(zoe _ _ _ (by simp)).trans ((zod _ _ _ _ rfl).trans rfl)
 have U:g.cell? ⟨j,9,none⟩=some (.int .i64 x.r.f):=by rw[hW,h0];exact(zoe _ _ _ (by simp)).trans ((zod _ _ _ _ rfl).trans rfl)
 have E:g.cell? ⟨j,10,none⟩=some (.slice x.cases.a x.cases.n x.cases.c):=by rw[hW,h0];exact(zoe _ _ _ (by simp)).trans ((zod _ _ _ _ rfl).trans rfl)
 have G:g.cell? ⟨j,11,none⟩=some (.int .i64 x.els):=by rw[hW,h0];exact(zoe _ _ _ (by simp)).trans ((zod _ _ _ _ rfl).trans rfl)
 have F:g.cell? ⟨j,12,none⟩=some (.int .i64 n):=by rw[hW,h0];exact(zoe _ _ _ (by simp)).trans ((zod _ _ _ _ rfl).trans rfl)
 have T:g.cell? ⟨H,0,none⟩=some (.int .u64 c.value):=by rw[hW,l];exact(zod _ _ _ _ (by simp)).trans rfl
 have O:g.cell? ⟨H,1,none⟩=some (.int .u64 c.mask):=by rw[hW,l];exact(zod _ _ _ _ (by simp)).trans rfl
 have X:g.cell? ⟨H,2,none⟩=some (.int .i64 c.to):=by rw[hW,l];exact(zod _ _ _ _ (by simp)).trans rfl
 have t:Hid (Below w.heap.size w g):=by rw[hW];exact ze (ze (zof _ _))
 have B:=hid hW;have u:=hid h0;have A:=hid l;clear hW h0 l;have b5:=zm z0;have a3:=zm z1;have b3:=zm Z;have b2:=zm P;have a1:=zm Y;have a6:=zm Q;have a8:=zm z6;have b6:=zm z7;have c1:=zm z8;have a9:=zm U;have N:=zm E;have S:=zm G;have a0:=zm F;have b8:=zm T;have a2:=zm O;have b7:=zm X;have k:Hid (∀w',Calls Tryz.prog 130 #[.int .u64 c.mask] w' fun e o=>e=.returned (.int .i64 (ku c.mask))/\o=w'):=fun w'=>zdF c.mask w' M.1 M.2
 have s:Hid (∀p:zq g,Calls Tryz.prog 129 #[d.v,.agg #[.int .i64 x.r.h,.int .i64 x.r.f],.slice none 0 0] p.to fun e o=>e=.returned (.int .i64 (d.p.width x.r []))/\Below p.to.heap.size p.to o):=fun p=>by
  rw[<-qD J];exact zaw d x.r.h x.r.f none 0 0 [] p.to (J.step (zh t.out p.h)) (zW _ _)
 have q:Hid (∀w',Calls Tryz.prog 91 #[LV d x n,.int .i64 c.to] w' fun e o=>e=.returned (.int .i64 (yF d.p.ss.length n c.to))/\Below w'.heap.size w' o):=fun w'=>by
  have e1:d.p.ss.length=d.states.n:=by simp[PlanD.p,J.ss.1]
  rw[e1];exact zg3 d x n c.to w'
 have C:Hid (yn d.p x.r n c=if d.p.width x.r []<ku c.mask\/bits .andNot .u64 c.value c.mask≠0 then 6 else yF d.p.ss.length n c.to):=rfl
 clear J M;generalize d.p.width x.r []=W at*;generalize ku c.mask=L at*;generalize hV:bits .andNot .u64 c.value c.mask=V at*;generalize yF d.p.ss.length n c.to=R at*;by_cases l:W<L
 ·have d1:=zoY l;rw[if_pos (.inl l)]at C;clear l q;go_enter Tryz.func90,Tryz.ntmps90
  go_wp2_with fail
  rw[<-B.out,<-A.out,<-u.out];clear B A u;haveI inhB:∀w:World,Inhabited (zq w):=fun w=>⟨⟨w,zof _ _⟩⟩
  refine zi (by kernel_rfl) (by kernel_rfl) ?_
  repeat (go_big_quiet_step (first|(go_at_call 130;exact zt _ (k.out _))|(go_at_call 129;exact zT _ (s.out _))))
  refine wpQuiet_nil ?_;intro _ m;obtain⟨⟨wq,b⟩,i⟩:=m;subst i;have y:=hid (zh t.out b);clear t b;go_wp2;go_ret;exact⟨by rw[C.out];rfl,y.out⟩
 have d1:=zoX l;by_cases I:V=0
 ·have d2:(V !=0)=false:=by simpa using I
  rw[if_neg (fun h=>h.elim l (fun h=>h I))]at C
  clear l;go_enter Tryz.func90,Tryz.ntmps90
  go_wp2_with fail
  rw[<-B.out,<-A.out,<-u.out];clear B A u;haveI inhB:∀w:World,Inhabited (zq w):=fun w=>⟨⟨w,zof _ _⟩⟩
  refine zi (by kernel_rfl) (by kernel_rfl) ?_
  repeat (go_big_quiet_step (first|(go_at_call 130;exact zt _ (k.out _))|(go_at_call 129;exact zT _ (s.out _))))
  refine wpQuiet_nil ?_;intro _ m;obtain⟨⟨wq,b⟩,i⟩:=m;subst i;have y:=hid (zh t.out b);have x0:=za z0 b;have x1:=za z1 b;have x2:=za Z b;have x3:=za P b;have x4:=za Y b;have x5:=za Q b;have x6:=za z6 b;have x7:=za z7 b;have x8:=za z8 b;have x9:=za U b;have a5:=za E b;have a7:=za G b;have a4:=za F b;have b4:=za T b;have c0:=za O b;have b9:=za X b;clear t b k s;go_wp2_with fail
  refine(q.out _).mono ?_;rintro e w3 ⟨rfl,D⟩;have K:=hid (zh y.out D);clear D y q;go_wp2;go_ret;exact⟨by rw[C.out];rfl,K.out⟩
 ·have d2:(V !=0)=true:=by simpa using I
  rw[if_pos (.inr I)]at C;clear l q;go_enter Tryz.func90,Tryz.ntmps90
  go_wp2_with fail
  rw[<-B.out,<-A.out,<-u.out];clear B A u;haveI inhB:∀w:World,Inhabited (zq w):=fun w=>⟨⟨w,zof _ _⟩⟩
  refine zi (by kernel_rfl) (by kernel_rfl) ?_
  repeat (go_big_quiet_step (first|(go_at_call 130;exact zt _ (k.out _))|(go_at_call 129;exact zT _ (s.out _))))
  refine wpQuiet_nil ?_;intro _ m;obtain⟨⟨wq,b⟩,i⟩:=m;subst i;have y:=hid (zh t.out b);clear t b;go_wp2;go_ret;exact⟨by rw[C.out];rfl,y.out⟩
end Go.Proofs.YtbmcgbmegcpgnaaGreat
