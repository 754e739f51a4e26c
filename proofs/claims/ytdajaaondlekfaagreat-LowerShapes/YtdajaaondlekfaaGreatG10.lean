import Derived.Test.YtdajaaondlekfaaGreatG4
import Derived.Test.YtdajaaondlekfaaGreatG1
set_option maxHeartbeats 8000000
set_option maxRecDepth 20000
set_option linter.unusedSimpArgs false
namespace Go.Proofs.YtdajaaondlekfaaGreat
open Go.RowKit
theorem zh6(a:Option Addr)(n c:Nat)(k:Int)(w:World):Calls Tryz.prog 225 #[.slice a n c,.int .i64 k] w fun e w'=>e=.returned (.bool (decide (0<=k/\k<(n:Int))))/\w'=w:=by
 by_cases h0:0<=k
 ·have d:=zoY h0;by_cases b:k<(n:Int)
  ·have f:=zoY b;have hr:=hid (zoY (⟨h0,b⟩:0<=k/\k<(n:Int)));go_enter Tryz.func225,Tryz.ntmps225
   go_wp2;go_ret;exact⟨by first|rfl|(rw[hr.out];rfl),rfl⟩
  ·have f:=zoX b;have hr:=hid (zoX (fun h=>b h.2:¬(0<=k/\k<(n:Int))))
   go_enter Tryz.func225,Tryz.ntmps225
   go_wp2;go_ret;exact⟨by first|rfl|(rw[hr.out];rfl),rfl⟩
 ·have d:=zoX h0;have hr:=hid (zoX (fun h=>h0 h.1:¬(0<=k/\k<(n:Int))))
  go_enter Tryz.func225,Tryz.ntmps225
  go_wp2;go_ret;exact⟨by first|rfl|(rw[hr.out];rfl),rfl⟩
theorem zh7(a:Option Addr)(n c:Nat)(k:Int)(w:World):Calls Tryz.prog 226 #[.slice a n c,.int .i64 k] w fun e w'=>e=.returned (.bool (decide (0<=k/\k<(n:Int))))/\w'=w:=by
 by_cases h0:0<=k
 ·have d:=zoY h0;by_cases b:k<(n:Int)
  ·have f:=zoY b;have hr:=hid (zoY (⟨h0,b⟩:0<=k/\k<(n:Int)));go_enter Tryz.func226,Tryz.ntmps226
   go_wp2;go_ret;exact⟨by first|rfl|(rw[hr.out];rfl),rfl⟩
  ·have f:=zoX b;have hr:=hid (zoX (fun h=>b h.2:¬(0<=k/\k<(n:Int))))
   go_enter Tryz.func226,Tryz.ntmps226
   go_wp2;go_ret;exact⟨by first|rfl|(rw[hr.out];rfl),rfl⟩
 ·have d:=zoX h0;have hr:=hid (zoX (fun h=>h0 h.1:¬(0<=k/\k<(n:Int))))
  go_enter Tryz.func226,Tryz.ntmps226
  go_wp2;go_ret;exact⟨by first|rfl|(rw[hr.out];rfl),rfl⟩
theorem zeR(a:Option Addr)(n c:Nat)(k:Int)(w:World):Calls Tryz.prog 204 #[.slice a n c,.int .i64 k] w fun e w'=>e=.returned (.int .i64 (xz n k))/\w'=w:=by
 have HC:Hid (∀w',Calls Tryz.prog 170 #[.slice a n c,.int .i64 k] w' fun e b=>e=.returned (.bool (decide (0<=k/\k<(n:Int))))/\b=w'):=fun w'=>zbN a n c k w'
 by_cases h:0<=k/\k<(n:Int)
 ·have hr:Hid (xz n k=0):=by simp only[Hid,xz,if_pos h]
  rw[zoY h]at HC;clear h;go_enter Tryz.func204,Tryz.ntmps204
  go_wp2_with fail
  refine(HC.out _).mono ?_;rintro e d ⟨rfl,rfl⟩;clear HC;go_wp2;go_ret;exact⟨by rw[hr.out];rfl,rfl⟩
 ·have hr:Hid (xz n k=1):=by simp only[Hid,xz,if_neg h]
  rw[zoX h]at HC;clear h;go_enter Tryz.func204,Tryz.ntmps204
  go_wp2_with fail
  refine(HC.out _).mono ?_;rintro e d ⟨rfl,rfl⟩;clear HC;go_wp2;go_ret;exact⟨by rw[hr.out];rfl,rfl⟩
theorem zkf(a:Option Addr)(n c:Nat)(k:Int)(w:World):Calls Tryz.prog 211 #[.slice a n c,.int .i64 k] w fun e w'=>e=.returned (.int .i64 (xz n k))/\w'=w:=by
 have HC:Hid (∀w',Calls Tryz.prog 225 #[.slice a n c,.int .i64 k] w' fun e b=>e=.returned (.bool (decide (0<=k/\k<(n:Int))))/\b=w'):=fun w'=>zh6 a n c k w'
 by_cases h:0<=k/\k<(n:Int)
 ·have hr:Hid (xz n k=0):=by simp only[Hid,xz,if_pos h]
  rw[zoY h]at HC;clear h;go_enter Tryz.func211,Tryz.ntmps211
  go_wp2_with fail
  refine(HC.out _).mono ?_;rintro e d ⟨rfl,rfl⟩;clear HC;go_wp2;go_ret;exact⟨by rw[hr.out];rfl,rfl⟩
 ·have hr:Hid (xz n k=1):=by simp only[Hid,xz,if_neg h]
  rw[zoX h]at HC;clear h;go_enter Tryz.func211,Tryz.ntmps211
  go_wp2_with fail
  refine(HC.out _).mono ?_;rintro e d ⟨rfl,rfl⟩;clear HC;go_wp2;go_ret;exact⟨by rw[hr.out];rfl,rfl⟩
theorem zg2(x:Int)(w:World):Calls Tryz.prog 169 #[.int .i64 x] w fun e w'=>e=.returned (.int .i64 (xC x))/\w'=w:=by
 by_cases h:x<1
 ·have hr:Hid (xC x=6):=by simp only[Hid,xC,if_pos (show x<1\/48<x from .inl h)]
  have b:=zoY h;go_enter Tryz.func169,Tryz.ntmps169
  go_wp2;go_ret;exact⟨by rw[hr.out];rfl,rfl⟩
 have b:=zoX h;by_cases h2:48<x
 ·have hr:Hid (xC x=6):=by simp only[Hid,xC,if_pos (show x<1\/48<x from .inr h2)]
  have a:=zoY h2;go_enter Tryz.func169,Tryz.ntmps169
  go_wp2;go_ret;exact⟨by rw[hr.out];rfl,rfl⟩
 ·have hr:Hid (xC x=0):=by simp only[Hid,xC,if_neg (show¬(x<1\/48<x)by omega)]
  have a:=zoX h2;go_enter Tryz.func169,Tryz.ntmps169
  go_wp2;go_ret;exact⟨by rw[hr.out];rfl,rfl⟩
theorem zbM(d:PlanD)(r:RefD)(c:Option Addr)(an ac:Nat)(zs:List Int)(w:World)(g:d.lie w)(i:Has .i64 w c an zs):
 Calls Tryz.prog 171 #[d.v,.agg #[.int .i64 r.h,.int .i64 r.f],.slice c an ac] w fun e w'=>e=.returned (.bool (d.p.width r zs !=0))/\Below w.heap.size w w':=by
 have a:∀o b,Below w.heap.size w ((w.alloc o).alloc b):=fun o b=>ze (ze (zof _ _))
 have HC:Hid (∀o b,Calls Tryz.prog 156 #[d.v,.agg #[.int .i64 r.h,.int .i64 r.f],.slice c an ac] ((w.alloc o).alloc b) fun e w'=>e=.returned (.int .i64 (d.p.width r zs))/\Below ((w.alloc o).alloc b).heap.size ((w.alloc o).alloc b) w'):=fun o b=>by
  rw[<-qD g];exact zaw d r.h r.f c an ac zs _ (g.step (a o b)) (i.step (a o b))
 have j:=hid a;clear g i a;go_enter Tryz.func171,Tryz.ntmps171
 go_wp2_with fail
 refine(HC.out _ _).mono ?_;rintro e l ⟨rfl,hb⟩;have k:=hid (zh (j.out _ _) hb);clear HC j hb;go_wp2;go_ret;exact⟨rfl,k.out⟩
theorem zf1(d:PlanD)(r:RefD)(w:World)(k:d.lie w):
 Calls Tryz.prog 202 #[d.v,.agg #[.int .i64 r.h,.int .i64 r.f]] w fun e w'=>e=.returned (.int .i64 (zR d.p r))/\Below w.heap.size w w':=by
 have a:∀o b,Below w.heap.size w ((w.alloc o).alloc b):=fun o b=>ze (ze (zof _ _))
 have HC:Hid (∀o b,Calls Tryz.prog 171 #[d.v,.agg #[.int .i64 r.h,.int .i64 r.f],.slice none 0 0] ((w.alloc o).alloc b) fun e w'=>e=.returned (.bool (d.p.width r [] !=0))/\Below ((w.alloc o).alloc b).heap.size ((w.alloc o).alloc b) w'):=fun o b=>zbM d r none 0 0 [] _ (k.step (a o b)) (zW _ _)
 clear k;by_cases c:r.h= -3
 ·have hr:Hid (zR d.p r=1):=by simp only[Hid,zR,if_pos (show r.h= -3\/d.p.width r []=0 from .inl c)]
  have m:(r.h== -3)=true:=by simpa using c
  clear HC c;go_enter Tryz.func202,Tryz.ntmps202
  go_wp2;go_ret;exact⟨by rw[hr.out];rfl,a _ _⟩
 have m:(r.h== -3)=false:=by simpa using c
 by_cases h0:d.p.width r []=0
 ·have hr:Hid (zR d.p r=1):=by simp only[Hid,zR,if_pos (show r.h= -3\/d.p.width r []=0 from .inr h0)]
  rw[h0]at HC;have g:=hid a;clear h0 c a;go_enter Tryz.func202,Tryz.ntmps202
  go_wp2_with fail
  refine(HC.out _ _).mono ?_;rintro e l ⟨rfl,hb⟩;have i:=hid (zh (g.out _ _) hb);clear HC g hb;go_wp2;go_ret;exact⟨by rw[hr.out];rfl,i.out⟩
 ·have hr:Hid (zR d.p r=0):=by simp only[Hid,zR,if_neg (show¬(r.h= -3\/d.p.width r []=0)from fun h=>h.elim c h0)]
  have j:(d.p.width r [] !=0)=true:=by simpa using h0
  rw[j]at HC;have g:=hid a;clear h0 c a j;go_enter Tryz.func202,Tryz.ntmps202
  go_wp2_with fail
  refine(HC.out _ _).mono ?_;rintro e l ⟨rfl,hb⟩;have i:=hid (zh (g.out _ _) hb);clear HC g hb;go_wp2;go_ret;exact⟨by rw[hr.out];rfl,i.out⟩
def yn(p:PPlan)(r:RefD)(n:Int)(c:CaseD):Int:=if p.width r []<ku c.mask\/bits .andNot .u64 c.value c.mask≠0 then 6 else yF p.ss.length n c.to
theorem zjX(d:PlanD)(x:StateD)(n:Int)(c:CaseD)(w:World)(H:d.lie w)(J:0<=c.mask/\c.mask<18446744073709551616):
 Calls Tryz.prog 174 #[LV d x n,.agg #[.int .u64 c.value,.int .u64 c.mask,.int .i64 c.to]] w fun e w'=>e=.returned (.int .i64 (yn d.p x.r n c))/\Below w.heap.size w w':=by
 obtain⟨g,hW⟩:∃g,g=((w.alloc (.cells #[.slice d.heads.a d.heads.n d.heads.c,.slice d.mta.a d.mta.n d.mta.c,.slice d.states.a d.states.n d.states.c,.slice d.acts.a d.acts.n d.acts.c,.slice d.tabs.a d.tabs.n d.tabs.c,.slice d.nodes.a d.nodes.n d.nodes.c,.slice d.out.a d.out.n d.out.c,.int .i64 x.head,.int .i64 x.r.h,.int .i64 x.r.f,.slice x.cases.a x.cases.n x.cases.c,.int .i64 x.els,.int .i64 n] 253)).alloc (.cells #[.int .u64 c.value,.int .u64 c.mask,.int .i64 c.to] 163)):=⟨_,rfl⟩;obtain⟨b0,h0⟩:∃b0,b0=w.heap.size:=⟨_,rfl⟩;obtain⟨D,k⟩:∃D,D=w.heap.size+1:=⟨_,rfl⟩;have z0:g.cell? ⟨b0,0,none⟩=some (.slice d.heads.a d.heads.n d.heads.c):=by rw[hW,h0];exact(zoe _ _ _ (by simp)).trans ((zod _ _ _ _ rfl).trans rfl)
 have z1:g.cell? ⟨b0,1,none⟩=some (.slice d.mta.a d.mta.n d.mta.c):=by rw[hW,h0];exact(zoe _ _ _ (by simp)).trans ((zod _ _ _ _ rfl).trans rfl)
 have P:g.cell? ⟨b0,2,none⟩=some (.slice d.states.a d.states.n d.states.c):=by rw[hW,h0];exact(zoe _ _ _ (by simp)).trans ((zod _ _ _ _ rfl).trans rfl)
 have S:g.cell? ⟨b0,3,none⟩=some (.slice d.acts.a d.acts.n d.acts.c):=by rw[hW,h0];exact(zoe _ _ _ (by simp)).trans ((zod _ _ _ _ rfl).trans rfl)
 have N:g.cell? ⟨b0,4,none⟩=some (.slice d.tabs.a d.tabs.n d.tabs.c):=by rw[hW,h0];exact(zoe _ _ _ (by simp)).trans ((zod _ _ _ _ rfl).trans rfl)
 have T:g.cell? ⟨b0,5,none⟩=some (.slice d.nodes.a d.nodes.n d.nodes.c):=by rw[hW,h0];exact(zoe _ _ _ (by simp)).trans ((zod _ _ _ _ rfl).trans rfl)
 have X:g.cell? ⟨b0,6,none⟩=some (.slice d.out.a d.out.n d.out.c):=by rw[hW,h0];exact(zoe _ _ _ (by simp)).trans ((zod _ _ _ _ rfl).trans rfl)
 have Y:g.cell? ⟨b0,7,none⟩=some (.int .i64 x.head):=by rw[hW,h0];exact(zoe _ _ _ (by simp)).trans ((zod _ _ _ _ rfl).trans rfl)
 have Q:g.cell? ⟨b0,8,none⟩=some (.int .i64 x.r.h):=by rw[hW,h0];exact(zoe _ _ _ (by simp)).trans ((zod _ _ _ _ rfl).trans rfl)
 have K:g.cell? ⟨b0,9,none⟩=some (.int .i64 x.r.f):=by rw[hW,h0];exact(zoe _ _ _ (by simp)).trans ((zod _ _ _ _ rfl).trans rfl)
 have G:g.cell? ⟨b0,10,none⟩=some (.slice x.cases.a x.cases.n x.cases.c):=by rw[hW,h0];exact(zoe _ _ _ (by simp)).trans ((zod _ _ _ _ rfl).trans rfl)
 have C:g.cell? ⟨b0,11,none⟩=some (.int .i64 x.els):=by rw[hW,h0];exact(zoe _ _ _ (by simp)).trans ((zod _ _ _ _ rfl).trans rfl)
 have F:g.cell? ⟨b0,12,none⟩=some (.int .i64 n):=by rw[hW,h0];exact(zoe _ _ _ (by simp)).trans ((zod _ _ _ _ rfl).trans rfl)
 have y0:g.cell? ⟨D,0,none⟩=some (.int .u64 c.value):=by rw[hW,k];exact(zod _ _ _ _ (by simp)).trans rfl
 have y1:g.cell? ⟨D,1,none⟩=some (.int .u64 c.mask):=by rw[hW,k];exact(zod _ _ _ _ (by simp)).trans rfl
 have Z:g.cell? ⟨D,2,none⟩=some (.int .i64 c.to):=by rw[hW,k];exact(zod _ _ _ _ (by simp)).trans rfl
 have s:Hid (Below w.heap.size w g):=by rw[hW];exact ze (ze (zof _ _))
 have u:=hid hW;have A:=hid h0;have B:=hid k;clear hW h0 k;have c0:=zm z0;have a3:=zm z1;have a6:=zm P;have a9:=zm S;have a0:=zm N;have a1:=zm T;have b7:=zm X;have b9:=zm Y;have b3:=zm Q;have b6:=zm K;have U:=zm G;have M:=zm C;have O:=zm F;have a2:=zm y0;have b2:=zm y1;have a8:=zm Z;have j:Hid (∀w',Calls Tryz.prog 200 #[.int .u64 c.mask] w' fun e l=>e=.returned (.int .i64 (ku c.mask))/\l=w'):=fun w'=>zdF c.mask w' J.1 J.2
 have q:Hid (∀p:zq g,Calls Tryz.prog 156 #[d.v,.agg #[.int .i64 x.r.h,.int .i64 x.r.f],.slice none 0 0] p.to fun e l=>e=.returned (.int .i64 (d.p.width x.r []))/\Below p.to.heap.size p.to l):=fun p=>by
  rw[<-qD H];exact zaw d x.r.h x.r.f none 0 0 [] p.to (H.step (zh s.out p.h)) (zW _ _)
 have o:Hid (∀w',Calls Tryz.prog 175 #[LV d x n,.int .i64 c.to] w' fun e l=>e=.returned (.int .i64 (yF d.p.ss.length n c.to))/\Below w'.heap.size w' l):=fun w'=>by
  have e1:d.p.ss.length=d.states.n:=by simp[PlanD.p,H.ss.1]
  rw[e1];exact zg3 d x n c.to w'
 have t:Hid (yn d.p x.r n c=if d.p.width x.r []<ku c.mask\/bits .andNot .u64 c.value c.mask≠0 then 6 else yF d.p.ss.length n c.to):=rfl
 clear H J;generalize d.p.width x.r []=W at*;generalize ku c.mask=L at*;generalize hV:bits .andNot .u64 c.value c.mask=V at*;generalize yF d.p.ss.length n c.to=R at*;by_cases k:W<L
 ·have d1:=zoY k;rw[if_pos (.inl k)]at t;clear k o;go_enter Tryz.func174,Tryz.ntmps174
  go_wp2_with fail
  rw[<-u.out,<-B.out,<-A.out];clear u B A;haveI inhB:∀w:World,Inhabited (zq w):=fun w=>⟨⟨w,zof _ _⟩⟩
  refine zi (by kernel_rfl) (by kernel_rfl) ?_
  repeat (go_big_quiet_step (first|(go_at_call 200;exact zt _ (j.out _))|(go_at_call 156;exact zT _ (q.out _))))
  refine wpQuiet_nil ?_;intro _ m;obtain⟨⟨wq,b⟩,i⟩:=m;subst i;have y:=hid (zh s.out b);clear s b;go_wp2;go_ret;exact⟨by rw[t.out];rfl,y.out⟩
 have d1:=zoX k;by_cases h2:V=0
 ·have d2:(V !=0)=false:=by simpa using h2
  rw[if_neg (fun h=>h.elim k (fun h=>h h2))]at t
  clear k;go_enter Tryz.func174,Tryz.ntmps174
  go_wp2_with fail
  rw[<-u.out,<-B.out,<-A.out];clear u B A;haveI inhB:∀w:World,Inhabited (zq w):=fun w=>⟨⟨w,zof _ _⟩⟩
  refine zi (by kernel_rfl) (by kernel_rfl) ?_
  repeat (go_big_quiet_step (first|(go_at_call 200;exact zt _ (j.out _))|(go_at_call 156;exact zT _ (q.out _))))
  refine wpQuiet_nil ?_;intro _ m;obtain⟨⟨wq,b⟩,i⟩:=m;subst i;have y:=hid (zh s.out b);have x0:=za z0 b;have x1:=za z1 b;have x2:=za P b;have x3:=za S b;have x4:=za N b;have x5:=za T b;have x6:=za X b;have x7:=za Y b;have x8:=za Q b;have x9:=za K b;have a5:=za G b;have b5:=za C b;have b8:=za F b;have a7:=za y0 b;have a4:=za y1 b;have b4:=za Z b;clear s b j q;go_wp2_with fail
  refine(o.out _).mono ?_;rintro e w3 ⟨rfl,E⟩;have I:=hid (zh y.out E);clear E y o;go_wp2;go_ret;exact⟨by rw[t.out];rfl,I.out⟩
 ·have d2:(V !=0)=true:=by simpa using h2
  rw[if_pos (.inr h2)]at t;clear k o;go_enter Tryz.func174,Tryz.ntmps174
  go_wp2_with fail
  rw[<-u.out,<-B.out,<-A.out];clear u B A;haveI inhB:∀w:World,Inhabited (zq w):=fun w=>⟨⟨w,zof _ _⟩⟩
  refine zi (by kernel_rfl) (by kernel_rfl) ?_
  repeat (go_big_quiet_step (first|(go_at_call 200;exact zt _ (j.out _))|(go_at_call 156;exact zT _ (q.out _))))
  refine wpQuiet_nil ?_;intro _ m;obtain⟨⟨wq,b⟩,i⟩:=m;subst i;have y:=hid (zh s.out b);clear s b;go_wp2;go_ret;exact⟨by rw[t.out];rfl,y.out⟩
def xX(L:List Int)(w:World)(e:Ending)(w':World):Prop:=e=.returned (.int .i64 (zn L))/\Below w.heap.size w w'
theorem zaL{w:World}{s:QSl}{L:List Int}(h:Has .i64 w s.a s.n L){k:Nat}(c:k<s.n):∃g off x,s.a=some ⟨g,off,none⟩/\L[k]?=some x/\w.cell? ⟨g,off+k,none⟩=some (.int .i64 x):=by
 obtain⟨g,off,e,_,d⟩:=h.some (by omega)
 have b:k<L.length:=by rw[h.1];exact c
 have:=d k c;rw[zoi,zoh b,zoC]at this;exact⟨g,off,_,e,zoh b,this⟩
theorem zc9(G:Value)(s:QSl)(L:List CaseD)(code:CaseD->Int)(w:World)(hs:s.n<=100000)(y:QRow 3 CaseD.lie w s L)
 (H:∀w',Below w.heap.size w w'->∀c∈L,Calls Tryz.prog 174 #[G,.agg #[.int .u64 c.value,.int .u64 c.mask,.int .i64 c.to]] w' fun e u=>e=.returned (.int .i64 (code c))/\Below w'.heap.size w' u):
 Calls Tryz.prog 173 #[.slice s.a s.n s.c,.func (.func 174) #[G] #[]] w (xX (L.map code) w):=by
 have HD:Hid (∀w' R,zn (L.map code)=R->Below w.heap.size w w'->xX (L.map code) w (.returned (.int .i64 R)) w'):=fun w' R h hb=>⟨by rw[h],hb⟩
 obtain⟨E,ee⟩:∃E,s.a=E:=⟨_,rfl⟩;have J:=hid y;have HC:=hid H;have K:=hid y.1;have m:Hid (Below w.heap.size w w):=zof _ _;rw[ee];have N:=hid ee;clear y H ee;go_enter Tryz.func173,Tryz.ntmps173
 go_wp2;go_loopw [10,6,7] (fun q _ _ wr=>∃k:Nat,k<=s.n/\q=.int .i64 k/\Hid (zn (L.map code)=zn ((L.drop k).map code))/\Hid (Below w.heap.size w wr)) (fun q _ _ _=>s.n-(intOf q).toNat)
 case atStart=>exact⟨0,zon _,rfl,rfl,m⟩
 case round=>
  obtain⟨k,Q,rfl,b,hb⟩:=hrel;clear m;by_cases t:k<s.n
  ·obtain⟨g,off,x,l,B,⟨r0,_⟩,⟨r1,_⟩,⟨S,_⟩⟩:=zu (J.out.step CaseD.keeps hb.out) t;obtain rfl:E=some ⟨g,off,none⟩:=by rw[<-N.out];exact l
   have P:(k:Int)<(s.n:Int):=by omega
   have i:zn ((L.drop k).map code)=if code x≠0 then code x else zn ((L.drop (k+1)).map code):=by
    obtain⟨D,e⟩:=zok.1 B;rw[zoM D,e];rfl
   have f:=hid (HC.out (wr.alloc (.cells #[.int .u64 x.value,.int .u64 x.mask,.int .i64 x.to] 163)) (zh hb.out (ze (zof _ _))) x (zol B));have r:=hid (ze (o:=.cells #[.int .u64 x.value,.int .u64 x.mask,.int .i64 x.to] 163) (zof wr.heap.size wr));clear l B;generalize code x=C at*;by_cases h0:C=0
   ·have A:Hid (zn (L.map code)=zn ((L.drop (k+1)).map code)):=by show zn (L.map code)=_;rw[b.out,i,if_neg (by simp[h0])]
    subst h0;clear i b;go_wp2_with fail
    refine f.out.mono ?_;rintro e O ⟨rfl,d⟩;have j:=hid (zh (zh hb.out r.out) d);clear f d hb r;go_wp2;go_roundw
    case rel=>exact⟨k+1,by omega,by go_num,A,j⟩
    case measure=>simp[intOf];omega
   ·have A:Hid (zn (L.map code)=C):=by show zn (L.map code)=_;rw[b.out,i,if_pos h0]
    have b0:(C !=0)=true:=by simpa using h0
    clear i b;go_wp2_with fail
    refine f.out.mono ?_;rintro e O ⟨rfl,d⟩;have j:=hid (zh (zh hb.out r.out) d);clear f d hb r;go_wp2;go_ret;exact HD.out _ _ A.out j.out
  ·have I:k=s.n:=by omega
   have M:Hid (zn (L.map code)=0):=by
    show zn (L.map code)=_;rw[b.out,I,<-K.out,zoP];rfl
   have F:=hid hb.out;clear b hb;subst I;go_wp2;go_ret;exact HD.out _ _ M.out F.out
theorem zeP(I:Value)(s:QSl)(L:List OpD)(code:OpD->Int)(w:World)(hs:s.n<=100000)(B:QRow 5 OpD.lie w s L)
 (J:∀w',Below w.heap.size w w'->∀c∈L,Calls Tryz.prog 178 #[I,.agg #[.int .i64 c.kind,.int .i64 c.r.h,.int .i64 c.r.f,.int .i64 c.head,.slice c.e.a c.e.n c.e.c]] w' fun e A=>e=.returned (.int .i64 (code c))/\Below w'.heap.size w' A):
 Calls Tryz.prog 177 #[.slice s.a s.n s.c,.func (.func 178) #[I] #[]] w (xX (L.map code) w):=by
 have HD:Hid (∀w' R,zn (L.map code)=R->Below w.heap.size w w'->xX (L.map code) w (.returned (.int .i64 R)) w'):=fun w' R h hb=>⟨by rw[h],hb⟩
 obtain⟨G,ee⟩:∃G,s.a=G:=⟨_,rfl⟩;have M:=hid B;have HC:=hid J;have N:=hid B.1;have t:Hid (Below w.heap.size w w):=zof _ _;rw[ee];have P:=hid ee;clear B J ee;go_enter Tryz.func177,Tryz.ntmps177
 go_wp2;go_loopw [10,6,7] (fun q _ _ wr=>∃k:Nat,k<=s.n/\q=.int .i64 k/\Hid (zn (L.map code)=zn ((L.drop k).map code))/\Hid (Below w.heap.size w wr)) (fun q _ _ _=>s.n-(intOf q).toNat)
 case atStart=>exact⟨0,zon _,rfl,rfl,t⟩
 case round=>
  obtain⟨k,U,rfl,b,hb⟩:=hrel;clear t;by_cases y:k<s.n
  ·obtain⟨g,off,x,m,E,⟨r0,_⟩,⟨r1,_⟩,⟨V,_⟩,⟨W,_⟩,⟨T,_⟩,_⟩:=zu (M.out.step OpD.keeps hb.out) y;obtain rfl:G=some ⟨g,off,none⟩:=by rw[<-P.out];exact m
   have S:(k:Int)<(s.n:Int):=by omega
   have j:zn ((L.drop k).map code)=if code x≠0 then code x else zn ((L.drop (k+1)).map code):=by
    obtain⟨F,e⟩:=zok.1 E;rw[zoM F,e];rfl
   have i:=hid (HC.out (wr.alloc (.cells #[.int .i64 x.kind,.int .i64 x.r.h,.int .i64 x.r.f,.int .i64 x.head,.slice x.e.a x.e.n x.e.c] 66)) (zh hb.out (ze (zof _ _))) x (zol E));have u:=hid (ze (o:=.cells #[.int .i64 x.kind,.int .i64 x.r.h,.int .i64 x.r.f,.int .i64 x.head,.slice x.e.a x.e.n x.e.c] 66) (zof wr.heap.size wr));clear m E;generalize code x=C at*;by_cases h0:C=0
   ·have D:Hid (zn (L.map code)=zn ((L.drop (k+1)).map code)):=by show zn (L.map code)=_;rw[b.out,j,if_neg (by simp[h0])]
    subst h0;clear j b;go_wp2_with fail
    refine i.out.mono ?_;rintro e Q ⟨rfl,d⟩;have l:=hid (zh (zh hb.out u.out) d);clear i d hb u;go_wp2;go_roundw
    case rel=>exact⟨k+1,by omega,by go_num,D,l⟩
    case measure=>simp[intOf];omega
   ·have D:Hid (zn (L.map code)=C):=by show zn (L.map code)=_;rw[b.out,j,if_pos h0]
    have b0:(C !=0)=true:=by simpa using h0
    clear j b;go_wp2_with fail
    refine i.out.mono ?_;rintro e Q ⟨rfl,d⟩;have l:=hid (zh (zh hb.out u.out) d);clear i d hb u;go_wp2;go_ret;exact HD.out _ _ D.out l.out
  ·have K:k=s.n:=by omega
   have O:Hid (zn (L.map code)=0):=by
    show zn (L.map code)=_;rw[b.out,K,<-N.out,zoP];rfl
   have H:=hid hb.out;clear b hb;subst K;go_wp2;go_ret;exact HD.out _ _ O.out H.out
theorem zd6(s:QSl)(L:List Int)(code:Int->Int)(w:World)(hs:s.n<=100000)(u:Has .i64 w s.a s.n L)
 (F:∀w',Below w.heap.size w w'->∀c∈L,Calls Tryz.prog 169 #[.int .i64 c] w' fun e t=>e=.returned (.int .i64 (code c))/\Below w'.heap.size w' t):
 Calls Tryz.prog 176 #[.slice s.a s.n s.c,.func (.func 169) #[] #[]] w (xX (L.map code) w):=by
 have HD:Hid (∀w' R,zn (L.map code)=R->Below w.heap.size w w'->xX (L.map code) w (.returned (.int .i64 R)) w'):=fun w' R h hb=>⟨by rw[h],hb⟩
 obtain⟨D,ee⟩:∃D,s.a=D:=⟨_,rfl⟩;have H:=hid u;have HC:=hid F;have I:=hid u.1;have m:Hid (Below w.heap.size w w):=zof _ _;rw[ee];have K:=hid ee;clear u F ee;go_enter Tryz.func176,Tryz.ntmps176
 go_wp2;go_loopw [10,6,7] (fun q _ _ wr=>∃k:Nat,k<=s.n/\q=.int .i64 k/\Hid (zn (L.map code)=zn ((L.drop k).map code))/\Hid (Below w.heap.size w wr)) (fun q _ _ _=>s.n-(intOf q).toNat)
 case atStart=>exact⟨0,zon _,rfl,rfl,m⟩
 case round=>
  obtain⟨k,O,rfl,b,hb⟩:=hrel;clear m;by_cases r:k<s.n
  ·obtain⟨g,off,x,l,A,r0⟩:=zaL (H.out.step hb.out) r;obtain rfl:D=some ⟨g,off,none⟩:=by rw[<-K.out];exact l
   have N:(k:Int)<(s.n:Int):=by omega
   have i:zn ((L.drop k).map code)=if code x≠0 then code x else zn ((L.drop (k+1)).map code):=by
    obtain⟨B,e⟩:=zok.1 A;rw[zoM B,e];rfl
   have f:=hid (HC.out wr (hb.out) x (zol A));have o:=hid (zof wr.heap.size wr);clear l A;generalize code x=C at*;by_cases h0:C=0
   ·have y:Hid (zn (L.map code)=zn ((L.drop (k+1)).map code)):=by show zn (L.map code)=_;rw[b.out,i,if_neg (by simp[h0])]
    subst h0;clear i b;go_wp2_with fail
    refine f.out.mono ?_;rintro e M ⟨rfl,d⟩;have j:=hid (zh (zh hb.out o.out) d);clear f d hb o;go_wp2;go_roundw
    case rel=>exact⟨k+1,by omega,by go_num,y,j⟩
    case measure=>simp[intOf];omega
   ·have y:Hid (zn (L.map code)=C):=by show zn (L.map code)=_;rw[b.out,i,if_pos h0]
    have b0:(C !=0)=true:=by simpa using h0
    clear i b;go_wp2_with fail
    refine f.out.mono ?_;rintro e M ⟨rfl,d⟩;have j:=hid (zh (zh hb.out o.out) d);clear f d hb o;go_wp2;go_ret;exact HD.out _ _ y.out j.out
  ·have G:k=s.n:=by omega
   have J:Hid (zn (L.map code)=0):=by
    show zn (L.map code)=_;rw[b.out,G,<-I.out,zoP];rfl
   have E:=hid hb.out;clear b hb;subst G;go_wp2;go_ret;exact HD.out _ _ J.out E.out
end Go.Proofs.YtdajaaondlekfaaGreat
