import Derived.Test.YtbmcgbmegcpgnaaGreatG4
import Derived.Test.YtbmcgbmegcpgnaaGreatG1
import Derived.Deep.RegionHeld3
import Derived.Test.YtbmcgbmegcpgnaaGreatVQFirst
import Derived.Test.YtbmcgbmegcpgnaaGreatG6
import Derived.Test.YtbmcgbmegcpgnaaGreatG7
import Derived.Test.YtbmcgbmegcpgnaaGreatVQState2
import Derived.Test.YtbmcgbmegcpgnaaGreatG8
import Derived.Test.YtbmcgbmegcpgnaaGreatVQPure
import Derived.Test.YtbmcgbmegcpgnaaGreatG3
set_option maxHeartbeats 16000000
set_option maxRecDepth 20000
set_option linter.unusedSimpArgs false
namespace Go.Proofs.YtbmcgbmegcpgnaaGreat
open Go.RowKit
@[reducible] def DV(d:PlanD)(a:ActD):Value:=.agg #[.slice d.heads.a d.heads.n d.heads.c,.slice d.mta.a d.mta.n d.mta.c,.slice d.states.a d.states.n d.states.c,.slice d.acts.a d.acts.n d.acts.c,.slice d.tabs.a d.tabs.n d.tabs.c,.slice d.nodes.a d.nodes.n d.nodes.c,.slice d.out.a d.out.n d.out.c,.slice a.w.a a.w.n a.w.c,.slice a.ops.a a.ops.n a.ops.c]
@[reducible] def OpD.v(o:OpD):Value:=.agg #[.int .i64 o.kind,.int .i64 o.r.h,.int .i64 o.r.f,.int .i64 o.head,.slice o.e.a o.e.n o.e.c]
theorem zj4{w w':World}{a c:Nat}{v0 v1 v2 v3 v4 v5 v6 i j k d f e g:Value}(h:w.cell? ⟨a,0,none⟩=some v0/\w.cell? ⟨a,1,none⟩=some v1/\w.cell? ⟨a,2,none⟩=some v2/\w.cell? ⟨a,3,none⟩=some v3/\w.cell? ⟨a,4,none⟩=some v4/\w.cell? ⟨a,5,none⟩=some v5/\w.cell? ⟨a,6,none⟩=some v6/\w.cell? ⟨a,7,none⟩=some i/\w.cell? ⟨a,8,none⟩=some j/\w.cell? ⟨c,0,none⟩=some k/\w.cell? ⟨c,1,none⟩=some d/\w.cell? ⟨c,2,none⟩=some f/\w.cell? ⟨c,3,none⟩=some e/\w.cell? ⟨c,4,none⟩=some g)(b:Below w.heap.size w w'):w'.cell? ⟨a,0,none⟩=some v0/\w'.cell? ⟨a,1,none⟩=some v1/\w'.cell? ⟨a,2,none⟩=some v2/\w'.cell? ⟨a,3,none⟩=some v3/\w'.cell? ⟨a,4,none⟩=some v4/\w'.cell? ⟨a,5,none⟩=some v5/\w'.cell? ⟨a,6,none⟩=some v6/\w'.cell? ⟨a,7,none⟩=some i/\w'.cell? ⟨a,8,none⟩=some j/\w'.cell? ⟨c,0,none⟩=some k/\w'.cell? ⟨c,1,none⟩=some d/\w'.cell? ⟨c,2,none⟩=some f/\w'.cell? ⟨c,3,none⟩=some e/\w'.cell? ⟨c,4,none⟩=some g:=
 ⟨za (h.1) b,za (h.2.1) b,za (h.2.2.1) b,za (h.2.2.2.1) b,za (h.2.2.2.2.1) b,za (h.2.2.2.2.2.1) b,za (h.2.2.2.2.2.2.1) b,za (h.2.2.2.2.2.2.2.1) b,za (h.2.2.2.2.2.2.2.2.1) b,za (h.2.2.2.2.2.2.2.2.2.1) b,za (h.2.2.2.2.2.2.2.2.2.2.1) b,za (h.2.2.2.2.2.2.2.2.2.2.2.1) b,za (h.2.2.2.2.2.2.2.2.2.2.2.2.1) b,za (h.2.2.2.2.2.2.2.2.2.2.2.2.2) b⟩
theorem zj5(d:PlanD)(a:ActD)(o:OpD)(w:World)(W:d.lie w)(ha:Has .i64 w a.w.a a.w.n a.ws)(X:QRow 4 PushD.lie w o.e o.es):
 Calls Tryz.prog 94 #[DV d a,o.v] w fun e w'=>e=.returned (.int .i64 (zx d.p a.ws o.p))/\Below w.heap.size w w':=by
 obtain⟨i,hW⟩:∃i,i=((w.alloc (.cells #[.slice d.heads.a d.heads.n d.heads.c,.slice d.mta.a d.mta.n d.mta.c,.slice d.states.a d.states.n d.states.c,.slice d.acts.a d.acts.n d.acts.c,.slice d.tabs.a d.tabs.n d.tabs.c,.slice d.nodes.a d.nodes.n d.nodes.c,.slice d.out.a d.out.n d.out.c,.slice a.w.a a.w.n a.w.c,.slice a.ops.a a.ops.n a.ops.c] 156)).alloc (.cells #[.int .i64 o.kind,.int .i64 o.r.h,.int .i64 o.r.f,.int .i64 o.head,.slice o.e.a o.e.n o.e.c] 59)):=⟨_,rfl⟩;obtain⟨g,h0⟩:∃g,g=w.heap.size:=⟨_,rfl⟩;obtain⟨q,h1⟩:∃q,q=w.heap.size+1:=⟨_,rfl⟩;have z0:i.cell? ⟨g,0,none⟩=some (.slice d.heads.a d.heads.n d.heads.c):=by rw[hW,h0];exact(zoe _ _ _ (by simp)).trans ((zod _ _ _ _ rfl).trans rfl)
 have z1:i.cell? ⟨g,1,none⟩=some (.slice d.mta.a d.mta.n d.mta.c):=by rw[hW,h0];exact(zoe _ _ _ (by simp)).trans ((zod _ _ _ _ rfl).trans rfl)
 have z2:i.cell? ⟨g,2,none⟩=some (.slice d.states.a d.states.n d.states.c):=by rw[hW,h0];exact(zoe _ _ _ (by simp)).trans ((zod _ _ _ _ rfl).trans rfl)
 have z3:i.cell? ⟨g,3,none⟩=some (.slice d.acts.a d.acts.n d.acts.c):=by rw[hW,h0];exact(zoe _ _ _ (by simp)).trans ((zod _ _ _ _ rfl).trans rfl)
 have z4:i.cell? ⟨g,4,none⟩=some (.slice d.tabs.a d.tabs.n d.tabs.c):=by rw[hW,h0];exact(zoe _ _ _ (by simp)).trans ((zod _ _ _ _ rfl).trans rfl)
 have z5:i.cell? ⟨g,5,none⟩=some (.slice d.nodes.a d.nodes.n d.nodes.c):=by rw[hW,h0];exact(zoe _ _ _ (by simp)).trans ((zod _ _ _ _ rfl).trans rfl)
 have z6:i.cell? ⟨g,6,none⟩=some (.slice d.out.a d.out.n d.out.c):=by rw[hW,h0];exact(zoe _ _ _ (by simp)).trans ((zod _ _ _ _ rfl).trans rfl)
 have z7:i.cell? ⟨g,7,none⟩=some (.slice a.w.a a.w.n a.w.c):=by rw[hW,h0];exact(zoe _ _ _ (by simp)).trans ((zod _ _ _ _ rfl).trans rfl)
 have z8:i.cell? ⟨g,8,none⟩=some (.slice a.ops.a a.ops.n a.ops.c):=by rw[hW,h0];exact(zoe _ _ _ (by simp)).trans ((zod _ _ _ _ rfl).trans rfl)
 have y0:i.cell? ⟨q,0,none⟩=some (.int .i64 o.kind):=by rw[hW,h1];exact(zod _ _ _ _ (by simp)).trans rfl
 have y1:i.cell? ⟨q,1,none⟩=some (.int .i64 o.r.h):=by rw[hW,h1];exact(zod _ _ _ _ (by simp)).trans rfl
 have y2:i.cell? ⟨q,2,none⟩=some (.int .i64 o.r.f):=by rw[hW,h1];exact(zod _ _ _ _ (by simp)).trans rfl
 have y3:i.cell? ⟨q,3,none⟩=some (.int .i64 o.head):=by rw[hW,h1];exact(zod _ _ _ _ (by simp)).trans rfl
 have y4:i.cell? ⟨q,4,none⟩=some (.slice o.e.a o.e.n o.e.c):=by rw[hW,h1];exact(zod _ _ _ _ (by simp)).trans rfl
 have t:Hid (Below w.heap.size w i):=by rw[hW];exact ze (ze (zof _ _))
 have E:=hid hW;have G:=hid h0;have I:=hid h1;clear hW h0 h1;have B:Hid (∀w',Below w.heap.size w w'->Calls Tryz.prog 132 #[d.v,.agg #[.int .i64 o.r.h,.int .i64 o.r.f]] w' fun e A=>e=.returned (.int .i64 (zR d.p o.r))/\Below w'.heap.size w' A):=fun w' h=>zf1 d o.r w' (W.step h)
 have l:Hid (∀w',Below w.heap.size w w'->Calls Tryz.prog 133 #[d.v,.slice o.e.a o.e.n o.e.c,.slice a.w.a a.w.n a.w.c] w' fun e A=>e=.returned (.int .i64 (xl d.p o.es a.ws))/\Below w'.heap.size w' A):=fun w' h=>ze8 d o.e o.es a.w.a a.w.n a.w.c a.ws w' (W.step h) (X.step PushD.keeps h) (ha.step h)
 have R:d.p.hs.length=d.heads.n:=by simp[PlanD.p,W.hs.1]
 have k:Hid (∀w',Calls Tryz.prog 134 #[.slice d.heads.a d.heads.n d.heads.c,.int .i64 o.head] w' fun e A=>e=.returned (.int .i64 (xz d.p.hs.length o.head))/\A=w'):=fun w'=>by
  rw[R];exact zeR _ _ _ _ w'
 have u:Hid (∀(w':World) (x y:Int),Calls Tryz.prog 88 #[.slice (some ⟨w'.heap.size,0,none⟩) 2 2] (w'.alloc (.cells #[.int .i64 x,.int .i64 y] 3)) fun e A=>e=.returned (.int .i64 (or2 x y))/\A=w'.alloc (.cells #[.int .i64 x,.int .i64 y] 3)):=fun w' x y=>zbl (b:=w'.heap.size) (x:=x) (y:=y) (or2 x y) rfl (by simp) (by simp)
 clear W ha X R;generalize T:zR d.p o.r=TA at*;generalize U:xl d.p o.es a.ws=TR at*;generalize V:xz d.p.hs.length o.head=NU at*;have N:=hid T;have M:=hid U;have F:=hid V;clear T U V;by_cases s:o.kind=1
 ·have Z:(o.kind==1)=true:=by simpa using s
  have D:Hid (zx d.p a.ws o.p=or2 TA TR):=by show zx d.p a.ws o.p=_;unfold zx;rw[if_pos (show o.p.kind=1 from s)];rw[<-N.out,<-M.out];rfl
  clear s k;go_enter Tryz.func94,Tryz.ntmps94
  go_wp2_with fail
  rw[<-E.out,<-I.out,<-G.out];clear E I G;go_region_held3 (fun w'=>w'.cell? ⟨g,0,none⟩=some (.slice d.heads.a d.heads.n d.heads.c)/\w'.cell? ⟨g,1,none⟩=some (.slice d.mta.a d.mta.n d.mta.c)/\w'.cell? ⟨g,2,none⟩=some (.slice d.states.a d.states.n d.states.c)/\w'.cell? ⟨g,3,none⟩=some (.slice d.acts.a d.acts.n d.acts.c)/\w'.cell? ⟨g,4,none⟩=some (.slice d.tabs.a d.tabs.n d.tabs.c)/\w'.cell? ⟨g,5,none⟩=some (.slice d.nodes.a d.nodes.n d.nodes.c)/\w'.cell? ⟨g,6,none⟩=some (.slice d.out.a d.out.n d.out.c)/\w'.cell? ⟨g,7,none⟩=some (.slice a.w.a a.w.n a.w.c)/\w'.cell? ⟨g,8,none⟩=some (.slice a.ops.a a.ops.n a.ops.c)/\w'.cell? ⟨q,0,none⟩=some (.int .i64 o.kind)/\w'.cell? ⟨q,1,none⟩=some (.int .i64 o.r.h)/\w'.cell? ⟨q,2,none⟩=some (.int .i64 o.r.f)/\w'.cell? ⟨q,3,none⟩=some (.int .i64 o.head)/\w'.cell? ⟨q,4,none⟩=some (.slice o.e.a o.e.n o.e.c))
   (first
    |go_keep
    |(go_split_ands
      exact zj4 ⟨by assumption,by assumption,by assumption,by assumption,by assumption,by assumption,by assumption,by assumption,by assumption,by assumption,by assumption,by assumption,by assumption,by assumption⟩ j))
   (first
    |(go_at_call 132;refine(B.out _ (zh t.out (zof i.heap.size i).drew)).mono ?_;rintro e O ⟨rfl,j⟩;have C:=hid j)
    |(go_at_call 133;refine(l.out _ (zh (zh t.out (zof i.heap.size i).drew) C.out)).mono ?_;rintro e O ⟨rfl,j⟩;have Q:=hid j)
    |(go_at_call 88;refine(u.out _ _ _).mono ?_;rintro e Y ⟨rfl,rfl⟩))
  all_goals
   have S:=hid (ze (o:=.cells #[.int .i64 TA,.int .i64 TR] 3) (zh (zh (zh t.out (zof i.heap.size i).drew) C.out) Q.out));clear t C Q;go_wp2;go_ret;exact⟨by rw[D.out];rfl,S.out⟩
 have Z:(o.kind==1)=false:=by simpa using s
 by_cases H:o.kind=2
 ·have e2:(o.kind==2)=true:=by simpa using H
  have D:Hid (zx d.p a.ws o.p=NU):=by show zx d.p a.ws o.p=_;unfold zx;rw[if_neg (show¬o.p.kind=1 from s),if_pos (show o.p.kind=2\/o.p.kind=3 from .inl H)];exact F.out
  clear s H B l u;go_enter Tryz.func94,Tryz.ntmps94
  go_wp2_with fail
  rw[<-E.out,<-I.out,<-G.out];clear E I G;refine(k.out _).mono ?_;rintro e O ⟨rfl,rfl⟩;clear k;go_wp2;go_ret;exact⟨by rw[D.out];rfl,t.out⟩
 have e2:(o.kind==2)=false:=by simpa using H
 by_cases K:o.kind=3
 ·have e3:(o.kind==3)=true:=by simpa using K
  have D:Hid (zx d.p a.ws o.p=NU):=by show zx d.p a.ws o.p=_;unfold zx;rw[if_neg (show¬o.p.kind=1 from s),if_pos (show o.p.kind=2\/o.p.kind=3 from .inr K)];exact F.out
  clear s H B l u K;go_enter Tryz.func94,Tryz.ntmps94
  go_wp2_with fail
  rw[<-E.out,<-I.out,<-G.out];clear E I G;refine(k.out _).mono ?_;rintro e O ⟨rfl,rfl⟩;clear k;go_wp2;go_ret;exact⟨by rw[D.out];rfl,t.out⟩
 have e3:(o.kind==3)=false:=by simpa using K
 have m:¬(o.p.kind=2\/o.p.kind=3):=fun h=>h.elim H K
 by_cases J:o.kind=4
 ·have e4:(o.kind==4)=true:=by simpa using J
  have D:Hid (zx d.p a.ws o.p=0):=by show zx d.p a.ws o.p=_;unfold zx;rw[if_neg (show¬o.p.kind=1 from s),if_neg m,if_pos (show o.p.kind=4 from J)]
  clear s H K J B l u k m;go_enter Tryz.func94,Tryz.ntmps94
  go_wp2;go_ret;exact⟨by rw[D.out];rfl,by rw[E.out]at t;exact t.out⟩
 have e4:(o.kind==4)=false:=by simpa using J
 by_cases L:o.kind=5
 ·have e5:(o.kind==5)=true:=by simpa using L
  have D:Hid (zx d.p a.ws o.p=TR):=by show zx d.p a.ws o.p=_;unfold zx;rw[if_neg (show¬o.p.kind=1 from s),if_neg m,if_neg (show¬o.p.kind=4 from J),if_pos (show o.p.kind=5 from L)];exact M.out
  clear s H K J L B u k m;go_enter Tryz.func94,Tryz.ntmps94
  go_wp2_with fail
  rw[<-E.out,<-I.out,<-G.out];clear E I G;refine(l.out _ t.out).mono ?_;rintro e O ⟨rfl,j⟩;have S:=hid (zh t.out j);clear l j t;go_wp2;go_ret;exact⟨by rw[D.out];rfl,S.out⟩
 have e5:(o.kind==5)=false:=by simpa using L
 by_cases P:o.kind=6
 ·have e6:(o.kind==6)=true:=by simpa using P
  have D:Hid (zx d.p a.ws o.p=or2 TA NU):=by show zx d.p a.ws o.p=_;unfold zx;rw[if_neg (show¬o.p.kind=1 from s),if_neg m,if_neg (show¬o.p.kind=4 from J),if_neg (show¬o.p.kind=5 from L),if_pos (show o.p.kind=6 from P)];rw[<-N.out,<-F.out];rfl
  clear s H K J L P l m;go_enter Tryz.func94,Tryz.ntmps94
  go_wp2_with fail
  rw[<-E.out,<-I.out,<-G.out];clear E I G;go_region_held3 (fun w'=>w'.cell? ⟨g,0,none⟩=some (.slice d.heads.a d.heads.n d.heads.c)/\w'.cell? ⟨g,1,none⟩=some (.slice d.mta.a d.mta.n d.mta.c)/\w'.cell? ⟨g,2,none⟩=some (.slice d.states.a d.states.n d.states.c)/\w'.cell? ⟨g,3,none⟩=some (.slice d.acts.a d.acts.n d.acts.c)/\w'.cell? ⟨g,4,none⟩=some (.slice d.tabs.a d.tabs.n d.tabs.c)/\w'.cell? ⟨g,5,none⟩=some (.slice d.nodes.a d.nodes.n d.nodes.c)/\w'.cell? ⟨g,6,none⟩=some (.slice d.out.a d.out.n d.out.c)/\w'.cell? ⟨g,7,none⟩=some (.slice a.w.a a.w.n a.w.c)/\w'.cell? ⟨g,8,none⟩=some (.slice a.ops.a a.ops.n a.ops.c)/\w'.cell? ⟨q,0,none⟩=some (.int .i64 o.kind)/\w'.cell? ⟨q,1,none⟩=some (.int .i64 o.r.h)/\w'.cell? ⟨q,2,none⟩=some (.int .i64 o.r.f)/\w'.cell? ⟨q,3,none⟩=some (.int .i64 o.head)/\w'.cell? ⟨q,4,none⟩=some (.slice o.e.a o.e.n o.e.c))
   (first
    |go_keep
    |(go_split_ands
      exact zj4 ⟨by assumption,by assumption,by assumption,by assumption,by assumption,by assumption,by assumption,by assumption,by assumption,by assumption,by assumption,by assumption,by assumption,by assumption⟩ j))
   (first
    |(go_at_call 132;refine(B.out _ (zh t.out (zof i.heap.size i).drew)).mono ?_;rintro e O ⟨rfl,j⟩;have C:=hid j)
    |(go_at_call 134;refine(k.out _).mono ?_;rintro e O ⟨rfl,rfl⟩)
    |(go_at_call 88;refine(u.out _ _ _).mono ?_;rintro e Y ⟨rfl,rfl⟩))
  all_goals
   have S:=hid (ze (o:=.cells #[.int .i64 TA,.int .i64 NU] 3) (zh (zh t.out (zof i.heap.size i).drew) C.out));clear t C;go_wp2;go_ret;exact⟨by rw[D.out];rfl,S.out⟩
 ·have e6:(o.kind==6)=false:=by simpa using P
  have D:Hid (zx d.p a.ws o.p=5):=by show zx d.p a.ws o.p=_;unfold zx;rw[if_neg (show¬o.p.kind=1 from s),if_neg m,if_neg (show¬o.p.kind=4 from J),if_neg (show¬o.p.kind=5 from L),if_neg (show¬o.p.kind=6 from P)]
  clear s H K J L P B l u k m;go_enter Tryz.func94,Tryz.ntmps94
  go_wp2;go_ret;exact⟨by rw[D.out];rfl,by rw[E.out]at t;exact t.out⟩
theorem znF{w w':World}{a c:Nat}{v0 v1 v2 v3 v4 v5 v6 d e:Value}(h:w.cell? ⟨a,0,none⟩=some v0/\w.cell? ⟨a,1,none⟩=some v1/\w.cell? ⟨a,2,none⟩=some v2/\w.cell? ⟨a,3,none⟩=some v3/\w.cell? ⟨a,4,none⟩=some v4/\w.cell? ⟨a,5,none⟩=some v5/\w.cell? ⟨a,6,none⟩=some v6/\w.cell? ⟨c,0,none⟩=some d/\w.cell? ⟨c,1,none⟩=some e)(b:Below w.heap.size w w'):w'.cell? ⟨a,0,none⟩=some v0/\w'.cell? ⟨a,1,none⟩=some v1/\w'.cell? ⟨a,2,none⟩=some v2/\w'.cell? ⟨a,3,none⟩=some v3/\w'.cell? ⟨a,4,none⟩=some v4/\w'.cell? ⟨a,5,none⟩=some v5/\w'.cell? ⟨a,6,none⟩=some v6/\w'.cell? ⟨c,0,none⟩=some d/\w'.cell? ⟨c,1,none⟩=some e:=
 ⟨za (h.1) b,za (h.2.1) b,za (h.2.2.1) b,za (h.2.2.2.1) b,za (h.2.2.2.2.1) b,za (h.2.2.2.2.2.1) b,za (h.2.2.2.2.2.2.1) b,za (h.2.2.2.2.2.2.2.1) b,za (h.2.2.2.2.2.2.2.2) b⟩
theorem zfS(d:PlanD)(w:World)(P:d.lie w)(k:Nat)(hk:k<d.acts.n)(x:ActD)(T:d.al[k]?=some x):
 Calls Tryz.prog 48 #[d.v,.int .i64 k] w fun e w'=>e=.returned (.int .i64 (ki d.p x.p))/\Below w.heap.size w w':=by
 have A:∀o,Below w.heap.size w (w.alloc o):=fun o=>ze (zof _ _)
 obtain⟨g,off,x',V,C,⟨c0,_⟩,⟨c1,_⟩,s,t⟩:=zu P.al hk;obtain rfl:x=x':=by rw[T]at C;exact zoq C
 have J:=s.1;have I:=t.1;have r:Hid (x.w.n<=100000->∀w',Below w.heap.size w w'->Calls Tryz.prog 92 #[.slice x.w.a x.w.n x.w.c,.func (.func 85) #[] #[]] w' fun e j=>e=.returned (.int .i64 (zn (x.ws.map xC)))/\Below w'.heap.size w' j):=fun hs w' h=>
  zd6 x.w x.ws xC w' hs (s.step h) (fun j _ c _=>(zg2 c j).mono fun _ _ ⟨E,h2⟩=>⟨E,by rw[h2];exact zof _ _⟩)
 have q:Hid (x.ops.n<=100000->∀w',Below w.heap.size w w'->Calls Tryz.prog 93 #[.slice x.ops.a x.ops.n x.ops.c,.func (.func 94) #[DV d x] #[]] w' fun e j=>e=.returned (.int .i64 (zn (x.os.map (fun o=>zx d.p x.ws o.p))))/\Below w'.heap.size w' j):=fun hs w' h=>
  zeP (DV d x) x.ops x.os (fun o=>zx d.p x.ws o.p) w' hs (t.step OpD.keeps h) (fun j O o ho=>by
   obtain⟨i,hi⟩:=List.getElem?_of_mem ho;obtain⟨g2,U,_,⟨_,_,_,_,_,he⟩⟩:=t.2 i o hi;exact zj5 d x o j (P.step (zh h O)) (s.step (zh h O)) (he.step PushD.keeps (zh h O)))
 have f:Hid (ki d.p x.p=if 3<x.ws.length\/5<x.os.length then 2 else or2 (zn (x.ws.map xC)) (zn (x.os.map (fun o=>zx d.p x.ws o.p)))):=by
  show ki d.p x.p=_;unfold ki ActD.p;simp only[zoE,List.map_map];rfl
 generalize zn (x.ws.map xC)=FW at*;generalize zn (x.os.map (fun o=>zx d.p x.ws o.p))=FO at*
 have B:Hid (∀(w':World),Calls Tryz.prog 88 #[.slice (some ⟨w'.heap.size,0,none⟩) 2 2] (w'.alloc (.cells #[.int .i64 FW,.int .i64 FO] 3)) fun e j=>e=.returned (.int .i64 (or2 FW FO))/\j=w'.alloc (.cells #[.int .i64 FW,.int .i64 FO] 3)):=fun w'=>zbl (b:=w'.heap.size) (x:=FW) (y:=FO) (or2 FW FO) rfl (by simp) (by simp)
 have X:(k:Int)<(d.acts.n:Int):=by omega
 have k0:∀o,(w.alloc o).cell? ⟨g,off+k*2,none⟩=some (.slice x.w.a x.w.n x.w.c):=fun o=>za c0 (A o)
 have k1:∀o,(w.alloc o).cell? ⟨g,off+k*2+1,none⟩=some (.slice x.ops.a x.ops.n x.ops.c):=fun o=>za c1 (A o)
 obtain⟨l,hW⟩:∃l,l=((w.alloc (.cells #[.slice d.heads.a d.heads.n d.heads.c,.slice d.mta.a d.mta.n d.mta.c,.slice d.states.a d.states.n d.states.c,.slice (some ⟨g,off,none⟩) d.acts.n d.acts.c,.slice d.tabs.a d.tabs.n d.tabs.c,.slice d.nodes.a d.nodes.n d.nodes.c,.slice d.out.a d.out.n d.out.c] 102)).alloc (.cells #[.slice x.w.a x.w.n x.w.c,.slice x.ops.a x.ops.n x.ops.c] 56)):=⟨_,rfl⟩;obtain⟨m,h0⟩:∃m,m=w.heap.size:=⟨_,rfl⟩;obtain⟨F,E⟩:∃F,F=w.heap.size+1:=⟨_,rfl⟩;have z0:l.cell? ⟨m,0,none⟩=some (.slice d.heads.a d.heads.n d.heads.c):=by rw[hW,h0];exact(zoe _ _ _ (by simp)).trans ((zod _ _ _ _ rfl).trans rfl)
 have z1:l.cell? ⟨m,1,none⟩=some (.slice d.mta.a d.mta.n d.mta.c):=by rw[hW,h0];exact(zoe _ _ _ (by simp)).trans ((zod _ _ _ _ rfl).trans rfl)
 have z2:l.cell? ⟨m,2,none⟩=some (.slice d.states.a d.states.n d.states.c):=by rw[hW,h0];exact(zoe _ _ _ (by simp)).trans ((zod _ _ _ _ rfl).trans rfl)
 have z3:l.cell? ⟨m,3,none⟩=some (.slice (some ⟨g,off,none⟩) d.acts.n d.acts.c):=by rw[hW,h0];exact(zoe _ _ _ (by simp)).trans ((zod _ _ _ _ rfl).trans rfl)
 have z4:l.cell? ⟨m,4,none⟩=some (.slice d.tabs.a d.tabs.n d.tabs.c):=by rw[hW,h0];exact(zoe _ _ _ (by simp)).trans ((zod _ _ _ _ rfl).trans rfl)
 have z5:l.cell? ⟨m,5,none⟩=some (.slice d.nodes.a d.nodes.n d.nodes.c):=by rw[hW,h0];exact(zoe _ _ _ (by simp)).trans ((zod _ _ _ _ rfl).trans rfl)
 have z6:l.cell? ⟨m,6,none⟩=some (.slice d.out.a d.out.n d.out.c):=by rw[hW,h0];exact(zoe _ _ _ (by simp)).trans ((zod _ _ _ _ rfl).trans rfl)
 have y0:l.cell? ⟨F,0,none⟩=some (.slice x.w.a x.w.n x.w.c):=by rw[hW,E];exact(zod _ _ _ _ (by simp)).trans rfl
 have y1:l.cell? ⟨F,1,none⟩=some (.slice x.ops.a x.ops.n x.ops.c):=by rw[hW,E];exact(zod _ _ _ _ (by simp)).trans rfl
 have M:Hid (Below w.heap.size w l):=by rw[hW];exact ze (ze (zof _ _))
 have S:=hid hW;have Q:=hid h0;have R:=hid E;unfold DV at q;rw[V]at q;have L:=hid J;have H:=hid I;clear hW h0 E P T C c0 c1 s t J I A;have a0:∀(fn:Fn) (first cap:Array Value) (w:World),(Instr.makeFunc fn first cap).run Tryz.prog w=.ok (.func fn first cap) w:=fun _ _ _ _=>rfl
 by_cases K:(3:Int)<(x.w.n:Int)
 ·have Z:=zoY K;rw[if_pos (.inl (by rw[L.out];omega))]at f
  clear K r q B;go_enter Tryz.func48,Tryz.ntmps48
  go_wp2;go_ret;exact⟨by rw[f.out];rfl,ze (ze (zof _ _))⟩
 have Z:=zoX K;by_cases N:(5:Int)<(x.ops.n:Int)
 ·have d5:=zoY N;rw[if_pos (.inr (by rw[H.out];omega))]at f
  clear K N r q B;go_enter Tryz.func48,Tryz.ntmps48
  go_wp2;go_ret;exact⟨by rw[f.out];rfl,ze (ze (zof _ _))⟩
 have d5:=zoX N;rw[if_neg (by rw[L.out,H.out];omega)]at f
 have r:=hid (r.out (by omega))
 have q:=hid (q.out (by omega))
 clear K N;go_enter Tryz.func48,Tryz.ntmps48
 go_wp2_with fail
 rw[<-S.out,<-R.out,<-Q.out];clear S R Q k0 k1;go_region_held3 (fun w'=>w'.cell? ⟨m,0,none⟩=some (.slice d.heads.a d.heads.n d.heads.c)/\w'.cell? ⟨m,1,none⟩=some (.slice d.mta.a d.mta.n d.mta.c)/\w'.cell? ⟨m,2,none⟩=some (.slice d.states.a d.states.n d.states.c)/\w'.cell? ⟨m,3,none⟩=some (.slice (some ⟨g,off,none⟩) d.acts.n d.acts.c)/\w'.cell? ⟨m,4,none⟩=some (.slice d.tabs.a d.tabs.n d.tabs.c)/\w'.cell? ⟨m,5,none⟩=some (.slice d.nodes.a d.nodes.n d.nodes.c)/\w'.cell? ⟨m,6,none⟩=some (.slice d.out.a d.out.n d.out.c)/\w'.cell? ⟨F,0,none⟩=some (.slice x.w.a x.w.n x.w.c)/\w'.cell? ⟨F,1,none⟩=some (.slice x.ops.a x.ops.n x.ops.c))
  (first
   |go_keep
   |(go_split_ands
     exact znF ⟨by assumption,by assumption,by assumption,by assumption,by assumption,by assumption,by assumption,by assumption,by assumption⟩ u))
  (first
   |(go_at_call 92;refine(r.out _ (zh M.out (zof l.heap.size l).drew)).mono ?_;rintro e Y ⟨rfl,u⟩;have D:=hid u)
   |(go_at_call 93;refine(q.out _ (zh (zh M.out (zof l.heap.size l).drew) D.out)).mono ?_;rintro e Y ⟨rfl,u⟩;have G:=hid u)
   |(go_at_call 88;refine(B.out _).mono ?_;rintro e wz ⟨rfl,rfl⟩))
 all_goals
  have W:=hid (ze (o:=.cells #[.int .i64 FW,.int .i64 FO] 3) (zh (zh (zh M.out (zof l.heap.size l).drew) D.out) G.out));clear M D G;go_wp2;go_ret;exact⟨by rw[f.out];rfl,W.out⟩
def zO(p:PPlan):Nat->Nat->Int
 |0,n=>yJ (p.hs.getD n [])
 |1,n=>xC (p.ms.getD n 0)
 |2,n=>yu p n (p.ss.getD n PState.z)
 |3,n=>ki p (p.al.getD n PAct.z)
 |4,n=>zcR p (p.ts.getD n PTab.z)
 |5,n=>yG p n (p.ns.getD n PNode.z)
 |_,n=>zf4 p n
theorem yY{α β :Type}{l:List α}{f: α->β}{n:Nat}{x: α}(h:l[n]?=some x)(y: β):(l.map f).getD n y=f x:=by
 rw[zoi,zoy,h];rfl
theorem zfT(d:PlanD)(w:World)(f:d.lie w)(hs:d.small):Calls Tryz.prog 18 #[d.v] w (zI d (zO d.p) w):=by
 refine zh0 d _ w fun k h w' hb n b=>?_
 have a:=f.step hb;rcases qx h with rfl|rfl|rfl|rfl|rfl|rfl|rfl
 ·exact zkd d w' a n b
 ·exact zke d w' a n b
 ·obtain⟨g,off,x,_,c,_⟩:=zu a.ss b;have e:zO d.p 2 n=yu d.p n x.p:=by
   show yu d.p n (d.p.ss.getD n PState.z)=_;rw[show d.p.ss.getD n PState.z=x.p from yY c _]
  rw[e];exact zin d w' a n b x c
 ·obtain⟨g,off,x,_,c,_⟩:=zu a.al b;have e:zO d.p 3 n=ki d.p x.p:=by
   show ki d.p (d.p.al.getD n PAct.z)=_;rw[show d.p.al.getD n PAct.z=x.p from yY c _]
  rw[e];exact zfS d w' a n b x c
 ·obtain⟨g,off,x,_,c,_⟩:=zu a.ts b;have e:zO d.p 4 n=zcR d.p x.p:=by
   show zcR d.p (d.p.ts.getD n PTab.z)=_;rw[show d.p.ts.getD n PTab.z=x.p from yY c _]
  rw[e];exact ziq d w' a hs n b x c
 ·obtain⟨g,off,x,_,c,_⟩:=zu a.ns b;have e:zO d.p 5 n=yG d.p n x.p:=by
   show yG d.p n (d.p.ns.getD n PNode.z)=_;rw[show d.p.ns.getD n PNode.z=x.p from yY c _]
  rw[e];exact zkh d w' a n b x c
 ·exact zlN d w' a (by have:=hs.on;omega) n b
theorem qh{num least most:Int}{a:Nat}{c:Nat->Int}{C A m l:Int}(h:qB num a least most c C A)(o:qB num a least most c m l):C=m/\A=l:=by
 rcases h with⟨j,rfl,rfl⟩|⟨j,r⟩
 ·rcases o with⟨_,rfl,rfl⟩|⟨d,_⟩
  ·exact⟨rfl,rfl⟩
  ·exact absurd j d
 ·rcases o with⟨d,_⟩|⟨_,d⟩
  ·exact absurd d j
  ·rcases r with⟨n,s,k,q,rfl,rfl⟩|⟨hz,rfl,rfl⟩
   ·rcases d with⟨f,e,b,g,rfl,rfl⟩|⟨i,rfl,rfl⟩
    ·have:n=f:=by
      rcases Nat.lt_trichotomy n f with h|h|h
      ·exact absurd (g n h) k
      ·exact h
      ·exact absurd (q f h) b
     subst this;exact⟨rfl,rfl⟩
    ·exact absurd (i n s) k
   ·rcases d with⟨f,e,b,g,rfl,rfl⟩|⟨i,rfl,rfl⟩
    ·exact absurd (hz f e) b
    ·exact⟨rfl,rfl⟩
theorem zir{d:PlanD}{cs:Nat->Nat->Int}{C A o m:Int}(h:jG d cs C A)(q:jG d cs o m):C=o/\A=m:=by
 rcases h with⟨k,s,l,n,r⟩|⟨hz,rfl,rfl⟩
 ·rcases q with⟨i,e,a,b,f⟩|⟨g,rfl,rfl⟩
  ·have:k=i:=by
    rcases Nat.lt_trichotomy k i with h|h|h
    ·obtain⟨j,c⟩:=f k h;exact absurd (qh l c).1 n
    ·exact h
    ·obtain⟨j,c⟩:=r i h;exact absurd (qh a c).1 b
   subst this;exact qh l a
  ·obtain⟨j,c⟩:=g k s;exact absurd (qh l c).1 n
 ·rcases q with⟨i,e,a,b,f⟩|⟨g,rfl,rfl⟩
  ·obtain⟨j,c⟩:=hz i e;exact absurd (qh a c).1 b
  ·exact⟨rfl,rfl⟩
def zaE(p:PPlan):Nat->Nat
 |0=>p.hs.length
 |1=>p.ms.length
 |2=>p.ss.length
 |3=>p.al.length
 |4=>p.ts.length
 |5=>p.ns.length
 |_=>p.os.length
def zaF(num:Int)(a:Nat)(least most:Int)(c:Nat->Int):Int × Int:=
 if(a:Int)<least\/most<(a:Int)then(2,-num)else match(List.range a).find? (fun n=>c n !=0)with
  |some n=>(c n,1000*num+n)
  |none=>(0,0)
theorem ze9(num:Int)(a:Nat)(least most:Int)(c:Nat->Int):qB num a least most c (zaF num a least most c).1 (zaF num a least most c).2:=by
 unfold zaF;by_cases h:(a:Int)<least\/most<(a:Int)
 ·rw[if_pos h];exact .inl ⟨h,rfl,rfl⟩
 ·rw[if_neg h];refine .inr ⟨h,?_⟩;rcases zcg (fun n=>c n=0) a with hz|⟨n,f,d,e⟩
  ·have:(List.range a).find? (fun n=>c n !=0)=none:=by
    rw[List.find?_eq_none];intro x g;simp[hz x (List.mem_range.1 g)]
   rw[this];exact .inr ⟨hz,rfl,rfl⟩
  ·have:(List.range a).find? (fun n=>c n !=0)=some n:=by
    rw[List.find?_range_eq_some];exact⟨by simpa using d,List.mem_range.2 f,fun j b=>by simpa using e j b⟩
   rw[this];exact .inl ⟨n,f,d,e,rfl,rfl⟩
def zcS(p:PPlan)(cs:Nat->Nat->Int):Nat->Int × Int
 |0=>(0,0)
 |m+1=>if(zaF (((6-m:Nat):Int)+1) (zaE p (6-m)) (zS (6-m)) (yh (6-m)) (cs (6-m))).1≠0 then zaF (((6-m:Nat):Int)+1) (zaE p (6-m)) (zS (6-m)) (yh (6-m)) (cs (6-m))else zcS p cs m
def zD(p:PPlan):Int × Int:=zcS p (zO p) 7
theorem zku{d:PlanD}{w:World}(a:d.lie w)(k:Nat):zM d k=zaE d.p k:=by
 unfold zM zaE PlanD.p;split<;>simp[a.hs.1,a.ms.1,a.ss.1,a.al.1,a.ts.1,a.ns.1,a.os.1]
theorem zfa{d:PlanD}{w:World}(c:d.lie w)(cs:Nat->Nat->Int):∀m,m<=7->(∀j,j<7-m->yE d cs j)->jG d cs (zcS d.p cs m).1 (zcS d.p cs m).2
 |0,_,h=>.inr ⟨fun j f=>h j (by omega),rfl,rfl⟩
 |m+1,hm,h=>by
  have a:=ze9 (((6-m:Nat):Int)+1) (zaE d.p (6-m)) (zS (6-m)) (yh (6-m)) (cs (6-m));rw[<-zku c]at a;unfold zcS;rw[<-zku c];by_cases b:(zaF (((6-m:Nat):Int)+1) (zM d (6-m)) (zS (6-m)) (yh (6-m)) (cs (6-m))).1≠0
  ·rw[if_pos b];exact .inl ⟨6-m,by omega,a,b,fun j f=>h j (by omega)⟩
  ·rw[if_neg b];refine zfa c cs m (by omega) fun j f=>?_
   by_cases e:j=6-m
   ·subst e;have:(zaF (((6-m:Nat):Int)+1) (zM d (6-m)) (zS (6-m)) (yh (6-m)) (cs (6-m))).1=0:=by omega
    rw[this]at a;exact⟨_,a⟩
   ·exact h j (by omega)
theorem zkv{d:PlanD}{w:World}(a:d.lie w){C A:Int}(h:jG d (zO d.p) C A):C=(zD d.p).1/\A=(zD d.p).2:=
 zir h (zfa a _ 7 (zos _) fun j b=>absurd b (by omega))
theorem zcT(d:PlanD)(w:World)(a:d.lie w)(hs:d.small):Calls Tryz.prog 18 #[d.v] w fun e w'=>e=.returned (.agg #[.int .i64 (zD d.p).1,.int .i64 (zD d.p).2])/\Below w.heap.size w w':=
 (zfT d w a hs).mono fun e w' ⟨C,A,c,b,hb⟩=>by
  obtain⟨rfl,rfl⟩:=zkv a c;exact⟨b,hb⟩
theorem zgw{num:Int}{a:Nat}{least most:Int}{c:Nat->Int}(h:(zaF num a least most c).1=0):least<=(a:Int)/\(a:Int)<=most/\∀n,n<a->c n=0:=by
 have d:=ze9 num a least most c;rw[h]at d;rcases d with⟨_,b,_⟩|⟨f,⟨n,_,e,_,b,_⟩|⟨b,_⟩⟩
 ·exact absurd b (by decide)
 ·exact absurd b.symm e
 ·exact⟨by omega,by omega,b⟩
theorem zc5{p:PPlan}{cs:Nat->Nat->Int}:∀m,m<=7->(zcS p cs m).1=0->∀j,7-m<=j->j<7->(zaF ((j:Int)+1) (zaE p j) (zS j) (yh j) (cs j)).1=0
 |0,_,_,j,h1,h2=>absurd h1 (by omega)
 |m+1,hm,h,j,h1,h2=>by
  unfold zcS at h;by_cases a:(zaF (((6-m:Nat):Int)+1) (zaE p (6-m)) (zS (6-m)) (yh (6-m)) (cs (6-m))).1=0
  ·rw[if_neg (fun h=>h a)]at h
   by_cases e:j=6-m
   ·subst e;exact a
   ·exact zc5 m (by omega) h j (by omega) h2
  ·rw[if_pos a]at h;exact absurd h a
theorem zB{p:PPlan}(h:(zD p).1=0)(j:Nat)(a:j<7):zS j<=(zaE p j:Int)/\(zaE p j:Int)<=yh j/\∀n,n<zaE p j->zO p j n=0:=zgw (zc5 7 (zos _) h j (by omega) a)
end Go.Proofs.YtbmcgbmegcpgnaaGreat
