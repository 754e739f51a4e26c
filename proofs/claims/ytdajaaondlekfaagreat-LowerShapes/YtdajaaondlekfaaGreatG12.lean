import Derived.Test.YtdajaaondlekfaaGreatG11
import Derived.Test.YtdajaaondlekfaaGreatG1
import Derived.Deep.RegionHeld3
import Derived.Test.YtdajaaondlekfaaGreatG10
set_option maxHeartbeats 16000000
set_option maxRecDepth 20000
set_option linter.unusedSimpArgs false
namespace Go.Proofs.YtdajaaondlekfaaGreat
open Go.RowKit
@[reducible] def DV(d:PlanD)(a:ActD):Value:=.agg #[.slice d.heads.a d.heads.n d.heads.c,.slice d.mta.a d.mta.n d.mta.c,.slice d.states.a d.states.n d.states.c,.slice d.acts.a d.acts.n d.acts.c,.slice d.tabs.a d.tabs.n d.tabs.c,.slice d.nodes.a d.nodes.n d.nodes.c,.slice d.out.a d.out.n d.out.c,.slice a.w.a a.w.n a.w.c,.slice a.ops.a a.ops.n a.ops.c]
@[reducible] def OpD.v(o:OpD):Value:=.agg #[.int .i64 o.kind,.int .i64 o.r.h,.int .i64 o.r.f,.int .i64 o.head,.slice o.e.a o.e.n o.e.c]
theorem zj4{w w':World}{b0 a:Nat}{v0 v1 v2 v3 v4 v5 v6 g i j c d f e:Value}(h:w.cell? ⟨b0,0,none⟩=some v0/\w.cell? ⟨b0,1,none⟩=some v1/\w.cell? ⟨b0,2,none⟩=some v2/\w.cell? ⟨b0,3,none⟩=some v3/\w.cell? ⟨b0,4,none⟩=some v4/\w.cell? ⟨b0,5,none⟩=some v5/\w.cell? ⟨b0,6,none⟩=some v6/\w.cell? ⟨b0,7,none⟩=some g/\w.cell? ⟨b0,8,none⟩=some i/\w.cell? ⟨a,0,none⟩=some j/\w.cell? ⟨a,1,none⟩=some c/\w.cell? ⟨a,2,none⟩=some d/\w.cell? ⟨a,3,none⟩=some f/\w.cell? ⟨a,4,none⟩=some e)(b:Below w.heap.size w w'):w'.cell? ⟨b0,0,none⟩=some v0/\w'.cell? ⟨b0,1,none⟩=some v1/\w'.cell? ⟨b0,2,none⟩=some v2/\w'.cell? ⟨b0,3,none⟩=some v3/\w'.cell? ⟨b0,4,none⟩=some v4/\w'.cell? ⟨b0,5,none⟩=some v5/\w'.cell? ⟨b0,6,none⟩=some v6/\w'.cell? ⟨b0,7,none⟩=some g/\w'.cell? ⟨b0,8,none⟩=some i/\w'.cell? ⟨a,0,none⟩=some j/\w'.cell? ⟨a,1,none⟩=some c/\w'.cell? ⟨a,2,none⟩=some d/\w'.cell? ⟨a,3,none⟩=some f/\w'.cell? ⟨a,4,none⟩=some e:=
 ⟨za (h.1) b,za (h.2.1) b,za (h.2.2.1) b,za (h.2.2.2.1) b,za (h.2.2.2.2.1) b,za (h.2.2.2.2.2.1) b,za (h.2.2.2.2.2.2.1) b,za (h.2.2.2.2.2.2.2.1) b,za (h.2.2.2.2.2.2.2.2.1) b,za (h.2.2.2.2.2.2.2.2.2.1) b,za (h.2.2.2.2.2.2.2.2.2.2.1) b,za (h.2.2.2.2.2.2.2.2.2.2.2.1) b,za (h.2.2.2.2.2.2.2.2.2.2.2.2.1) b,za (h.2.2.2.2.2.2.2.2.2.2.2.2.2) b⟩
theorem zj5(d:PlanD)(a:ActD)(o:OpD)(w:World)(V:d.lie w)(ha:Has .i64 w a.w.a a.w.n a.ws)(W:QRow 4 PushD.lie w o.e o.es):
 Calls Tryz.prog 178 #[DV d a,o.v] w fun e w'=>e=.returned (.int .i64 (zx d.p a.ws o.p))/\Below w.heap.size w w':=by
 obtain⟨g,hW⟩:∃g,g=((w.alloc (.cells #[.slice d.heads.a d.heads.n d.heads.c,.slice d.mta.a d.mta.n d.mta.c,.slice d.states.a d.states.n d.states.c,.slice d.acts.a d.acts.n d.acts.c,.slice d.tabs.a d.tabs.n d.tabs.c,.slice d.nodes.a d.nodes.n d.nodes.c,.slice d.out.a d.out.n d.out.c,.slice a.w.a a.w.n a.w.c,.slice a.ops.a a.ops.n a.ops.c] 261)).alloc (.cells #[.int .i64 o.kind,.int .i64 o.r.h,.int .i64 o.r.f,.int .i64 o.head,.slice o.e.a o.e.n o.e.c] 66)):=⟨_,rfl⟩;obtain⟨b0,h0⟩:∃b0,b0=w.heap.size:=⟨_,rfl⟩;obtain⟨l,h1⟩:∃l,l=w.heap.size+1:=⟨_,rfl⟩;have z0:g.cell? ⟨b0,0,none⟩=some (.slice d.heads.a d.heads.n d.heads.c):=by rw[hW,h0];exact(zoe _ _ _ (by simp)).trans ((zod _ _ _ _ rfl).trans rfl)
 have z1:g.cell? ⟨b0,1,none⟩=some (.slice d.mta.a d.mta.n d.mta.c):=by rw[hW,h0];exact(zoe _ _ _ (by simp)).trans ((zod _ _ _ _ rfl).trans rfl)
 have z2:g.cell? ⟨b0,2,none⟩=some (.slice d.states.a d.states.n d.states.c):=by rw[hW,h0];exact(zoe _ _ _ (by simp)).trans ((zod _ _ _ _ rfl).trans rfl)
 have z3:g.cell? ⟨b0,3,none⟩=some (.slice d.acts.a d.acts.n d.acts.c):=by rw[hW,h0];exact(zoe _ _ _ (by simp)).trans ((zod _ _ _ _ rfl).trans rfl)
 have z4:g.cell? ⟨b0,4,none⟩=some (.slice d.tabs.a d.tabs.n d.tabs.c):=by rw[hW,h0];exact(zoe _ _ _ (by simp)).trans ((zod _ _ _ _ rfl).trans rfl)
 have z5:g.cell? ⟨b0,5,none⟩=some (.slice d.nodes.a d.nodes.n d.nodes.c):=by rw[hW,h0];exact(zoe _ _ _ (by simp)).trans ((zod _ _ _ _ rfl).trans rfl)
 have z6:g.cell? ⟨b0,6,none⟩=some (.slice d.out.a d.out.n d.out.c):=by rw[hW,h0];exact(zoe _ _ _ (by simp)).trans ((zod _ _ _ _ rfl).trans rfl)
 have z7:g.cell? ⟨b0,7,none⟩=some (.slice a.w.a a.w.n a.w.c):=by rw[hW,h0];exact(zoe _ _ _ (by simp)).trans ((zod _ _ _ _ rfl).trans rfl)
 have z8:g.cell? ⟨b0,8,none⟩=some (.slice a.ops.a a.ops.n a.ops.c):=by rw[hW,h0];exact(zoe _ _ _ (by simp)).trans ((zod _ _ _ _ rfl).trans rfl)
 have y0:g.cell? ⟨l,0,none⟩=some (.int .i64 o.kind):=by rw[hW,h1];exact(zod _ _ _ _ (by simp)).trans rfl
 have y1:g.cell? ⟨l,1,none⟩=some (.int .i64 o.r.h):=by rw[hW,h1];exact(zod _ _ _ _ (by simp)).trans rfl
 have y2:g.cell? ⟨l,2,none⟩=some (.int .i64 o.r.f):=by rw[hW,h1];exact(zod _ _ _ _ (by simp)).trans rfl
 have y3:g.cell? ⟨l,3,none⟩=some (.int .i64 o.head):=by rw[hW,h1];exact(zod _ _ _ _ (by simp)).trans rfl
 have y4:g.cell? ⟨l,4,none⟩=some (.slice o.e.a o.e.n o.e.c):=by rw[hW,h1];exact(zod _ _ _ _ (by simp)).trans rfl
 have q:Hid (Below w.heap.size w g):=by rw[hW];exact ze (ze (zof _ _))
 have D:=hid hW;have F:=hid h0;have H:=hid h1;clear hW h0 h1;have t:Hid (∀w',Below w.heap.size w w'->Calls Tryz.prog 202 #[d.v,.agg #[.int .i64 o.r.h,.int .i64 o.r.f]] w' fun e u=>e=.returned (.int .i64 (zR d.p o.r))/\Below w'.heap.size w' u):=fun w' h=>zf1 d o.r w' (V.step h)
 have m:Hid (∀w',Below w.heap.size w w'->Calls Tryz.prog 203 #[d.v,.slice o.e.a o.e.n o.e.c,.slice a.w.a a.w.n a.w.c] w' fun e u=>e=.returned (.int .i64 (xl d.p o.es a.ws))/\Below w'.heap.size w' u):=fun w' h=>ze8 d o.e o.es a.w.a a.w.n a.w.c a.ws w' (V.step h) (W.step PushD.keeps h) (ha.step h)
 have S:d.p.hs.length=d.heads.n:=by simp[PlanD.p,V.hs.1]
 have j:Hid (∀w',Calls Tryz.prog 204 #[.slice d.heads.a d.heads.n d.heads.c,.int .i64 o.head] w' fun e u=>e=.returned (.int .i64 (xz d.p.hs.length o.head))/\u=w'):=fun w'=>by
  rw[S];exact zeR _ _ _ _ w'
 have A:Hid (∀(w':World) (x y:Int),Calls Tryz.prog 172 #[.slice (some ⟨w'.heap.size,0,none⟩) 2 2] (w'.alloc (.cells #[.int .i64 x,.int .i64 y] 3)) fun e u=>e=.returned (.int .i64 (or2 x y))/\u=w'.alloc (.cells #[.int .i64 x,.int .i64 y] 3)):=fun w' x y=>zbl (b:=w'.heap.size) (x:=x) (y:=y) (or2 x y) rfl (by simp) (by simp)
 clear V ha W S;generalize U:zR d.p o.r=TA at*;generalize P:xl d.p o.es a.ws=TR at*;generalize T:xz d.p.hs.length o.head=NU at*;have L:=hid U;have M:=hid P;have E:=hid T;clear U P T;by_cases s:o.kind=1
 ·have e1:(o.kind==1)=true:=by simpa using s
  have B:Hid (zx d.p a.ws o.p=or2 TA TR):=by show zx d.p a.ws o.p=_;unfold zx;rw[if_pos (show o.p.kind=1 from s)];rw[<-L.out,<-M.out];rfl
  clear s j;go_enter Tryz.func178,Tryz.ntmps178
  go_wp2_with fail
  rw[<-D.out,<-H.out,<-F.out];clear D H F;go_region_held3 (fun w'=>w'.cell? ⟨b0,0,none⟩=some (.slice d.heads.a d.heads.n d.heads.c)/\w'.cell? ⟨b0,1,none⟩=some (.slice d.mta.a d.mta.n d.mta.c)/\w'.cell? ⟨b0,2,none⟩=some (.slice d.states.a d.states.n d.states.c)/\w'.cell? ⟨b0,3,none⟩=some (.slice d.acts.a d.acts.n d.acts.c)/\w'.cell? ⟨b0,4,none⟩=some (.slice d.tabs.a d.tabs.n d.tabs.c)/\w'.cell? ⟨b0,5,none⟩=some (.slice d.nodes.a d.nodes.n d.nodes.c)/\w'.cell? ⟨b0,6,none⟩=some (.slice d.out.a d.out.n d.out.c)/\w'.cell? ⟨b0,7,none⟩=some (.slice a.w.a a.w.n a.w.c)/\w'.cell? ⟨b0,8,none⟩=some (.slice a.ops.a a.ops.n a.ops.c)/\w'.cell? ⟨l,0,none⟩=some (.int .i64 o.kind)/\w'.cell? ⟨l,1,none⟩=some (.int .i64 o.r.h)/\w'.cell? ⟨l,2,none⟩=some (.int .i64 o.r.f)/\w'.cell? ⟨l,3,none⟩=some (.int .i64 o.head)/\w'.cell? ⟨l,4,none⟩=some (.slice o.e.a o.e.n o.e.c))
   (first
    |go_keep
    |(go_split_ands
      exact zj4 ⟨by assumption,by assumption,by assumption,by assumption,by assumption,by assumption,by assumption,by assumption,by assumption,by assumption,by assumption,by assumption,by assumption,by assumption⟩ i))
   (first
    |(go_at_call 202;refine(t.out _ (zh q.out (zof g.heap.size g).drew)).mono ?_;rintro e O ⟨rfl,i⟩;have C:=hid i)
    |(go_at_call 203;refine(m.out _ (zh (zh q.out (zof g.heap.size g).drew) C.out)).mono ?_;rintro e O ⟨rfl,i⟩;have Q:=hid i)
    |(go_at_call 172;refine(A.out _ _ _).mono ?_;rintro e Y ⟨rfl,rfl⟩))
  all_goals
   have R:=hid (ze (o:=.cells #[.int .i64 TA,.int .i64 TR] 3) (zh (zh (zh q.out (zof g.heap.size g).drew) C.out) Q.out));clear q C Q;go_wp2;go_ret;exact⟨by rw[B.out];rfl,R.out⟩
 have e1:(o.kind==1)=false:=by simpa using s
 by_cases G:o.kind=2
 ·have e2:(o.kind==2)=true:=by simpa using G
  have B:Hid (zx d.p a.ws o.p=NU):=by show zx d.p a.ws o.p=_;unfold zx;rw[if_neg (show¬o.p.kind=1 from s),if_pos (show o.p.kind=2\/o.p.kind=3 from .inl G)];exact E.out
  clear s G t m A;go_enter Tryz.func178,Tryz.ntmps178
  go_wp2_with fail
  rw[<-D.out,<-H.out,<-F.out];clear D H F;refine(j.out _).mono ?_;rintro e O ⟨rfl,rfl⟩;clear j;go_wp2;go_ret;exact⟨by rw[B.out];rfl,q.out⟩
 have e2:(o.kind==2)=false:=by simpa using G
 by_cases J:o.kind=3
 ·have Z:(o.kind==3)=true:=by simpa using J
  have B:Hid (zx d.p a.ws o.p=NU):=by show zx d.p a.ws o.p=_;unfold zx;rw[if_neg (show¬o.p.kind=1 from s),if_pos (show o.p.kind=2\/o.p.kind=3 from .inr J)];exact E.out
  clear s G t m A J;go_enter Tryz.func178,Tryz.ntmps178
  go_wp2_with fail
  rw[<-D.out,<-H.out,<-F.out];clear D H F;refine(j.out _).mono ?_;rintro e O ⟨rfl,rfl⟩;clear j;go_wp2;go_ret;exact⟨by rw[B.out];rfl,q.out⟩
 have Z:(o.kind==3)=false:=by simpa using J
 have k:¬(o.p.kind=2\/o.p.kind=3):=fun h=>h.elim G J
 by_cases I:o.kind=4
 ·have e4:(o.kind==4)=true:=by simpa using I
  have B:Hid (zx d.p a.ws o.p=0):=by show zx d.p a.ws o.p=_;unfold zx;rw[if_neg (show¬o.p.kind=1 from s),if_neg k,if_pos (show o.p.kind=4 from I)]
  clear s G J I t m A j k;go_enter Tryz.func178,Tryz.ntmps178
  go_wp2;go_ret;exact⟨by rw[B.out];rfl,by rw[D.out]at q;exact q.out⟩
 have e4:(o.kind==4)=false:=by simpa using I
 by_cases K:o.kind=5
 ·have X:(o.kind==5)=true:=by simpa using K
  have B:Hid (zx d.p a.ws o.p=TR):=by show zx d.p a.ws o.p=_;unfold zx;rw[if_neg (show¬o.p.kind=1 from s),if_neg k,if_neg (show¬o.p.kind=4 from I),if_pos (show o.p.kind=5 from K)];exact M.out
  clear s G J I K t A j k;go_enter Tryz.func178,Tryz.ntmps178
  go_wp2_with fail
  rw[<-D.out,<-H.out,<-F.out];clear D H F;refine(m.out _ q.out).mono ?_;rintro e O ⟨rfl,i⟩;have R:=hid (zh q.out i);clear m i q;go_wp2;go_ret;exact⟨by rw[B.out];rfl,R.out⟩
 have X:(o.kind==5)=false:=by simpa using K
 by_cases N:o.kind=6
 ·have e6:(o.kind==6)=true:=by simpa using N
  have B:Hid (zx d.p a.ws o.p=or2 TA NU):=by show zx d.p a.ws o.p=_;unfold zx;rw[if_neg (show¬o.p.kind=1 from s),if_neg k,if_neg (show¬o.p.kind=4 from I),if_neg (show¬o.p.kind=5 from K),if_pos (show o.p.kind=6 from N)];rw[<-L.out,<-E.out];rfl
  clear s G J I K N m k;go_enter Tryz.func178,Tryz.ntmps178
  go_wp2_with fail
  rw[<-D.out,<-H.out,<-F.out];clear D H F;go_region_held3 (fun w'=>w'.cell? ⟨b0,0,none⟩=some (.slice d.heads.a d.heads.n d.heads.c)/\w'.cell? ⟨b0,1,none⟩=some (.slice d.mta.a d.mta.n d.mta.c)/\w'.cell? ⟨b0,2,none⟩=some (.slice d.states.a d.states.n d.states.c)/\w'.cell? ⟨b0,3,none⟩=some (.slice d.acts.a d.acts.n d.acts.c)/\w'.cell? ⟨b0,4,none⟩=some (.slice d.tabs.a d.tabs.n d.tabs.c)/\w'.cell? ⟨b0,5,none⟩=some (.slice d.nodes.a d.nodes.n d.nodes.c)/\w'.cell? ⟨b0,6,none⟩=some (.slice d.out.a d.out.n d.out.c)/\w'.cell? ⟨b0,7,none⟩=some (.slice a.w.a a.w.n a.w.c)/\w'.cell? ⟨b0,8,none⟩=some (.slice a.ops.a a.ops.n a.ops.c)/\w'.cell? ⟨l,0,none⟩=some (.int .i64 o.kind)/\w'.cell? ⟨l,1,none⟩=some (.int .i64 o.r.h)/\w'.cell? ⟨l,2,none⟩=some (.int .i64 o.r.f)/\w'.cell? ⟨l,3,none⟩=some (.int .i64 o.head)/\w'.cell? ⟨l,4,none⟩=some (.slice o.e.a o.e.n o.e.c))
   (first
    |go_keep
    |(go_split_ands
      exact zj4 ⟨by assumption,by assumption,by assumption,by assumption,by assumption,by assumption,by assumption,by assumption,by assumption,by assumption,by assumption,by assumption,by assumption,by assumption⟩ i))
   (first
    |(go_at_call 202;refine(t.out _ (zh q.out (zof g.heap.size g).drew)).mono ?_;rintro e O ⟨rfl,i⟩;have C:=hid i)
    |(go_at_call 204;refine(j.out _).mono ?_;rintro e O ⟨rfl,rfl⟩)
    |(go_at_call 172;refine(A.out _ _ _).mono ?_;rintro e Y ⟨rfl,rfl⟩))
  all_goals
   have R:=hid (ze (o:=.cells #[.int .i64 TA,.int .i64 NU] 3) (zh (zh q.out (zof g.heap.size g).drew) C.out));clear q C;go_wp2;go_ret;exact⟨by rw[B.out];rfl,R.out⟩
 ·have e6:(o.kind==6)=false:=by simpa using N
  have B:Hid (zx d.p a.ws o.p=5):=by show zx d.p a.ws o.p=_;unfold zx;rw[if_neg (show¬o.p.kind=1 from s),if_neg k,if_neg (show¬o.p.kind=4 from I),if_neg (show¬o.p.kind=5 from K),if_neg (show¬o.p.kind=6 from N)]
  clear s G J I K N t m A j k;go_enter Tryz.func178,Tryz.ntmps178
  go_wp2;go_ret;exact⟨by rw[B.out];rfl,by rw[D.out]at q;exact q.out⟩
theorem zcO(p:PPlan)(r:RefD):zR p r=0\/zR p r=1:=by
 unfold zR;split
 ·exact .inr rfl
 ·exact .inl rfl
theorem zih(d:PlanD)(o:OpD)(W:Option Addr)(an ac:Nat)(zs:List Int)(w:World)(V:d.lie w)(hz:Has .i64 w W an zs)(Y:QRow 4 PushD.lie w o.e o.es)(Z:0<=d.p.width o.r []):
 Calls Tryz.prog 100 #[d.v,o.v,.slice W an ac] w fun e w'=>e=.returned (.int .i64 (zx d.p zs o.p))/\Below w.heap.size w w':=by
 obtain⟨C,hW⟩:∃C,C=((w.alloc (.cells #[.slice d.heads.a d.heads.n d.heads.c,.slice d.mta.a d.mta.n d.mta.c,.slice d.states.a d.states.n d.states.c,.slice d.acts.a d.acts.n d.acts.c,.slice d.tabs.a d.tabs.n d.tabs.c,.slice d.nodes.a d.nodes.n d.nodes.c,.slice d.out.a d.out.n d.out.c] 29)).alloc (.cells #[.int .i64 o.kind,.int .i64 o.r.h,.int .i64 o.r.f,.int .i64 o.head,.slice o.e.a o.e.n o.e.c] 66)):=⟨_,rfl⟩;obtain⟨b0,h0⟩:∃b0,b0=w.heap.size:=⟨_,rfl⟩;obtain⟨M,h1⟩:∃M,M=w.heap.size+1:=⟨_,rfl⟩;have z0:C.cell? ⟨b0,0,none⟩=some (.slice d.heads.a d.heads.n d.heads.c):=by rw[hW,h0];exact(zoe _ _ _ (by simp)).trans ((zod _ _ _ _ rfl).trans rfl)
 have z1:C.cell? ⟨b0,1,none⟩=some (.slice d.mta.a d.mta.n d.mta.c):=by rw[hW,h0];exact(zoe _ _ _ (by simp)).trans ((zod _ _ _ _ rfl).trans rfl)
 have P:C.cell? ⟨b0,2,none⟩=some (.slice d.states.a d.states.n d.states.c):=by rw[hW,h0];exact(zoe _ _ _ (by simp)).trans ((zod _ _ _ _ rfl).trans rfl)
 have Q:C.cell? ⟨b0,3,none⟩=some (.slice d.acts.a d.acts.n d.acts.c):=by rw[hW,h0];exact(zoe _ _ _ (by simp)).trans ((zod _ _ _ _ rfl).trans rfl)
 have O:C.cell? ⟨b0,4,none⟩=some (.slice d.tabs.a d.tabs.n d.tabs.c):=by rw[hW,h0];exact(zoe _ _ _ (by simp)).trans ((zod _ _ _ _ rfl).trans rfl)
 have R:C.cell? ⟨b0,5,none⟩=some (.slice d.nodes.a d.nodes.n d.nodes.c):=by rw[hW,h0];exact(zoe _ _ _ (by simp)).trans ((zod _ _ _ _ rfl).trans rfl)
 have S:C.cell? ⟨b0,6,none⟩=some (.slice d.out.a d.out.n d.out.c):=by rw[hW,h0];exact(zoe _ _ _ (by simp)).trans ((zod _ _ _ _ rfl).trans rfl)
 have y0:C.cell? ⟨M,0,none⟩=some (.int .i64 o.kind):=by rw[hW,h1];exact(zod _ _ _ _ (by simp)).trans rfl
 have y1:C.cell? ⟨M,1,none⟩=some (.int .i64 o.r.h):=by rw[hW,h1];exact(zod _ _ _ _ (by simp)).trans rfl
 have U:C.cell? ⟨M,2,none⟩=some (.int .i64 o.r.f):=by rw[hW,h1];exact(zod _ _ _ _ (by simp)).trans rfl
 have N:C.cell? ⟨M,3,none⟩=some (.int .i64 o.head):=by rw[hW,h1];exact(zod _ _ _ _ (by simp)).trans rfl
 have T:C.cell? ⟨M,4,none⟩=some (.slice o.e.a o.e.n o.e.c):=by rw[hW,h1];exact(zod _ _ _ _ (by simp)).trans rfl
 have g:Hid (Below w.heap.size w C):=by rw[hW];exact ze (ze (zof _ _))
 have q:=hid hW;have t:=hid h0;have u:=hid h1;clear hW h0 h1;have s:Hid (∀w',Below w.heap.size w w'->Calls Tryz.prog 135 #[d.v,.agg #[.int .i64 o.r.h,.int .i64 o.r.f]] w' fun e J=>e=.returned (.bool (decide (zR d.p o.r=0)))/\Below w'.heap.size w' J):=fun w' h=>zf6 d o.r w' (V.step h) Z
 have F:Hid (∀w',Below w.heap.size w w'->Calls Tryz.prog 102 #[d.v,.slice o.e.a o.e.n o.e.c,.slice W an ac] w' fun e J=>e=.returned (.int .i64 (xl d.p o.es zs))/\Below w'.heap.size w' J):=fun w' h=>zeX d o.e o.es W an ac zs w' (V.step h) (Y.step PushD.keeps h) (hz.step h)
 have k:Hid (∀w',Calls Tryz.prog 64 #[d.v,.int .i64 o.head] w' fun e J=>e=.returned (.bool (decide (0<=o.head/\o.head<(d.heads.n:Int))))/\Below w'.heap.size w' J):=fun w'=>qE d o.head w'
 have H:Hid (d.p.hs.length=d.heads.n):=by show d.p.hs.length=d.heads.n;simp[PlanD.p,V.hs.1]
 clear V hz Y Z;by_cases i:o.kind=1
 ·have e1:(o.kind==1)=true:=by simpa using i
  by_cases B:zR d.p o.r=0
  ·have l:Hid (zx d.p zs o.p=xl d.p o.es zs):=by show zx d.p zs o.p=_;unfold zx;rw[if_pos (show o.p.kind=1 from i)];show or2 (zR d.p o.r) _=_;unfold or2;rw[if_neg (by simpa using B)];rfl
   rw[zoY B]at s;clear i B k;go_enter Tryz.func100,Tryz.ntmps100
   go_wp2_with fail
   rw[<-q.out,<-u.out,<-t.out];clear q u t;refine(s.out _ g.out).mono ?_;rintro e L ⟨rfl,b⟩;have A:=hid (zh g.out b);have z0:=za z0 b;have z1:=za z1 b;have P:=za P b;have Q:=za Q b;have O:=za O b;have R:=za R b;have S:=za S b;have y0:=za y0 b;have y1:=za y1 b;have U:=za U b;have N:=za N b;have T:=za T b;clear s b g;go_wp2_with fail
   refine(F.out _ A.out).mono ?_;rintro e X ⟨rfl,m⟩;have y:=hid (zh A.out m);clear F m A;go_wp2;go_ret;exact⟨by rw[l.out];rfl,y.out⟩
  ·have l:Hid (zx d.p zs o.p=1):=by show zx d.p zs o.p=_;unfold zx;rw[if_pos (show o.p.kind=1 from i)];show or2 (zR d.p o.r) _=_;unfold or2;rw[if_pos (show zR d.p o.r≠0 from B)];exact(zcO _ _).resolve_left B
   rw[zoX B]at s;clear i B k F;go_enter Tryz.func100,Tryz.ntmps100
   go_wp2_with fail
   rw[<-q.out,<-u.out,<-t.out];clear q u t;refine(s.out _ g.out).mono ?_;rintro e L ⟨rfl,b⟩;have y:=hid (zh g.out b);clear s b g;go_wp2;go_ret;exact⟨by rw[l.out];rfl,y.out⟩
 have e1:(o.kind==1)=false:=by simpa using i
 by_cases D:o.kind=2
 ·have e2:(o.kind==2)=true:=by simpa using D
  by_cases x:0<=o.head/\o.head<(d.heads.n:Int)
  ·have l:Hid (zx d.p zs o.p=0):=by show zx d.p zs o.p=_;unfold zx;rw[if_neg (show¬o.p.kind=1 from i),if_pos (show o.p.kind=2\/o.p.kind=3 from .inl D)];show xz d.p.hs.length o.head=_;rw[H.out];exact if_pos x
   rw[zoY x]at k;clear i D x s F;go_enter Tryz.func100,Tryz.ntmps100
   go_wp2_with fail
   rw[<-q.out,<-u.out,<-t.out];clear q u t;refine(k.out _).mono ?_;rintro e L ⟨rfl,b⟩;have y:=hid (zh g.out b);clear k b g;go_wp2;go_ret;exact⟨by rw[l.out];rfl,y.out⟩
  ·have l:Hid (zx d.p zs o.p=1):=by show zx d.p zs o.p=_;unfold zx;rw[if_neg (show¬o.p.kind=1 from i),if_pos (show o.p.kind=2\/o.p.kind=3 from .inl D)];show xz d.p.hs.length o.head=_;rw[H.out];exact if_neg x
   rw[zoX x]at k;clear i D x s F;go_enter Tryz.func100,Tryz.ntmps100
   go_wp2_with fail
   rw[<-q.out,<-u.out,<-t.out];clear q u t;refine(k.out _).mono ?_;rintro e L ⟨rfl,b⟩;have y:=hid (zh g.out b);clear k b g;go_wp2;go_ret;exact⟨by rw[l.out];rfl,y.out⟩
 have e2:(o.kind==2)=false:=by simpa using D
 by_cases G:o.kind=3
 ·have e3:(o.kind==3)=true:=by simpa using G
  by_cases x:0<=o.head/\o.head<(d.heads.n:Int)
  ·have l:Hid (zx d.p zs o.p=0):=by show zx d.p zs o.p=_;unfold zx;rw[if_neg (show¬o.p.kind=1 from i),if_pos (show o.p.kind=2\/o.p.kind=3 from .inr G)];show xz d.p.hs.length o.head=_;rw[H.out];exact if_pos x
   rw[zoY x]at k;clear i D G x s F;go_enter Tryz.func100,Tryz.ntmps100
   go_wp2_with fail
   rw[<-q.out,<-u.out,<-t.out];clear q u t;refine(k.out _).mono ?_;rintro e L ⟨rfl,b⟩;have y:=hid (zh g.out b);clear k b g;go_wp2;go_ret;exact⟨by rw[l.out];rfl,y.out⟩
  ·have l:Hid (zx d.p zs o.p=1):=by show zx d.p zs o.p=_;unfold zx;rw[if_neg (show¬o.p.kind=1 from i),if_pos (show o.p.kind=2\/o.p.kind=3 from .inr G)];show xz d.p.hs.length o.head=_;rw[H.out];exact if_neg x
   rw[zoX x]at k;clear i D G x s F;go_enter Tryz.func100,Tryz.ntmps100
   go_wp2_with fail
   rw[<-q.out,<-u.out,<-t.out];clear q u t;refine(k.out _).mono ?_;rintro e L ⟨rfl,b⟩;have y:=hid (zh g.out b);clear k b g;go_wp2;go_ret;exact⟨by rw[l.out];rfl,y.out⟩
 have e3:(o.kind==3)=false:=by simpa using G
 have j:¬(o.p.kind=2\/o.p.kind=3):=fun h=>h.elim D G
 by_cases E:o.kind=4
 ·have e4:(o.kind==4)=true:=by simpa using E
  have l:Hid (zx d.p zs o.p=0):=by show zx d.p zs o.p=_;unfold zx;rw[if_neg (show¬o.p.kind=1 from i),if_neg j,if_pos (show o.p.kind=4 from E)]
  clear i D G E s F k j;go_enter Tryz.func100,Tryz.ntmps100
  go_wp2;go_ret;exact⟨by rw[l.out];rfl,by rw[q.out]at g;exact g.out⟩
 have e4:(o.kind==4)=false:=by simpa using E
 by_cases I:o.kind=5
 ·have e5:(o.kind==5)=true:=by simpa using I
  have l:Hid (zx d.p zs o.p=xl d.p o.es zs):=by show zx d.p zs o.p=_;unfold zx;rw[if_neg (show¬o.p.kind=1 from i),if_neg j,if_neg (show¬o.p.kind=4 from E),if_pos (show o.p.kind=5 from I)];rfl
  clear i D G E I s k j;go_enter Tryz.func100,Tryz.ntmps100
  go_wp2_with fail
  rw[<-q.out,<-u.out,<-t.out];clear q u t;refine(F.out _ g.out).mono ?_;rintro e X ⟨rfl,m⟩;have y:=hid (zh g.out m);clear F m g;go_wp2;go_ret;exact⟨by rw[l.out];rfl,y.out⟩
 have e5:(o.kind==5)=false:=by simpa using I
 by_cases K:o.kind=6
 ·have e6:(o.kind==6)=true:=by simpa using K
  by_cases B:zR d.p o.r=0
  ·by_cases x:0<=o.head/\o.head<(d.heads.n:Int)
   ·have l:Hid (zx d.p zs o.p=0):=by show zx d.p zs o.p=_;unfold zx;rw[if_neg (show¬o.p.kind=1 from i),if_neg j,if_neg (show¬o.p.kind=4 from E),if_neg (show¬o.p.kind=5 from I),if_pos (show o.p.kind=6 from K)];show or2 (zR d.p o.r) (xz d.p.hs.length o.head)=_;unfold or2;rw[if_neg (by simpa using B),H.out];exact if_pos x
    rw[zoY B]at s;rw[zoY x]at k;clear i D G E I K B x F j;go_enter Tryz.func100,Tryz.ntmps100
    go_wp2_with fail
    rw[<-q.out,<-u.out,<-t.out];clear q u t;refine(s.out _ g.out).mono ?_;rintro e L ⟨rfl,b⟩;have A:=hid (zh g.out b);have z0:=za z0 b;have z1:=za z1 b;have P:=za P b;have Q:=za Q b;have O:=za O b;have R:=za R b;have S:=za S b;have y0:=za y0 b;have y1:=za y1 b;have U:=za U b;have N:=za N b;have T:=za T b;clear s b g;go_wp2_with fail
    refine(k.out _).mono ?_;rintro e X ⟨rfl,m⟩;have y:=hid (zh A.out m);clear k m A;go_wp2;go_ret;exact⟨by rw[l.out];rfl,y.out⟩
   ·have l:Hid (zx d.p zs o.p=1):=by show zx d.p zs o.p=_;unfold zx;rw[if_neg (show¬o.p.kind=1 from i),if_neg j,if_neg (show¬o.p.kind=4 from E),if_neg (show¬o.p.kind=5 from I),if_pos (show o.p.kind=6 from K)];show or2 (zR d.p o.r) (xz d.p.hs.length o.head)=_;unfold or2;rw[if_neg (by simpa using B),H.out];exact if_neg x
    rw[zoY B]at s;rw[zoX x]at k;clear i D G E I K B x F j;go_enter Tryz.func100,Tryz.ntmps100
    go_wp2_with fail
    rw[<-q.out,<-u.out,<-t.out];clear q u t;refine(s.out _ g.out).mono ?_;rintro e L ⟨rfl,b⟩;have A:=hid (zh g.out b);have z0:=za z0 b;have z1:=za z1 b;have P:=za P b;have Q:=za Q b;have O:=za O b;have R:=za R b;have S:=za S b;have y0:=za y0 b;have y1:=za y1 b;have U:=za U b;have N:=za N b;have T:=za T b;clear s b g;go_wp2_with fail
    refine(k.out _).mono ?_;rintro e X ⟨rfl,m⟩;have y:=hid (zh A.out m);clear k m A;go_wp2;go_ret;exact⟨by rw[l.out];rfl,y.out⟩
  ·have l:Hid (zx d.p zs o.p=1):=by show zx d.p zs o.p=_;unfold zx;rw[if_neg (show¬o.p.kind=1 from i),if_neg j,if_neg (show¬o.p.kind=4 from E),if_neg (show¬o.p.kind=5 from I),if_pos (show o.p.kind=6 from K)];show or2 (zR d.p o.r) (xz d.p.hs.length o.head)=_;unfold or2;rw[if_pos (show zR d.p o.r≠0 from B)];exact(zcO _ _).resolve_left B
   rw[zoX B]at s;clear i D G E I K B k F j;go_enter Tryz.func100,Tryz.ntmps100
   go_wp2_with fail
   rw[<-q.out,<-u.out,<-t.out];clear q u t;refine(s.out _ g.out).mono ?_;rintro e L ⟨rfl,b⟩;have y:=hid (zh g.out b);clear s b g;go_wp2;go_ret;exact⟨by rw[l.out];rfl,y.out⟩
 ·have e6:(o.kind==6)=false:=by simpa using K
  have l:Hid (zx d.p zs o.p=5):=by show zx d.p zs o.p=_;unfold zx;rw[if_neg (show¬o.p.kind=1 from i),if_neg j,if_neg (show¬o.p.kind=4 from E),if_neg (show¬o.p.kind=5 from I),if_neg (show¬o.p.kind=6 from K)]
  clear i D G E I K s F k j;go_enter Tryz.func100,Tryz.ntmps100
  go_wp2;go_ret;exact⟨by rw[l.out];rfl,by rw[q.out]at g;exact g.out⟩
theorem zd7(a:Option Addr)(n c:Nat)(L:List Int)(x:Int)(w:World)(G:n<=100000)(m:Has .i64 w a n L):
 Calls Tryz.prog 61 #[.slice a n c,.int .i64 x] w fun e w'=>e=.returned (.bool (decide (x∈L)))/\w'=w:=by
 have u:=hid m;have A:=hid m.1;clear m;go_enter Tryz.func61,Tryz.ntmps61
 go_wp2;go_loop [5] (fun q=>∃k:Nat,k<=n/\q=.int .i64 k/\Hid (∀j:Nat,j<k->L[j]?≠some x)) (fun q=>n-(intOf q).toNat)
 case atStart=>exact⟨0,zon _,rfl,fun j t=>absurd t (by omega)⟩
 case round=>
  obtain⟨k,F,rfl,d⟩:=hrel;by_cases o:k<n
  ·obtain⟨g,off,y,f,l,r0⟩:=zaL (s:=⟨a,n,c⟩) u.out o;dsimp only at f;subst f;have D:(k:Int)<(n:Int):=by omega
   by_cases b:y=x
   ·subst b;have r:=hid (zoY (zol l));clear d l;go_wp2;go_ret;exact⟨by rw[r.out];rfl,rfl⟩
   ·have H:(y==x)=false:=by simpa using b
    have E:Hid (∀j:Nat,j<k+1->L[j]?≠some x):=fun j t=>by
     by_cases B:j=k
     ·subst B;rw[l];intro h;exact b (zoq h)
     ·exact d.out j (by omega)
    clear d l b;go_wp2;go_round
    case rel=>exact⟨k+1,by omega,by go_num,E⟩
    case measure=>simp[intOf];omega
  ·have C:k=n:=by omega
   have r:=hid (zoX (fun h=>by
    obtain⟨i,hi⟩:=List.getElem?_of_mem h;have:=(zok.1 hi).1;exact d.out i (by rw[A.out]at this;omega) hi:¬x∈L))
   clear d;subst C;go_wp2;go_ret;exact⟨by rw[r.out];rfl,rfl⟩
end Go.Proofs.YtdajaaondlekfaaGreat
