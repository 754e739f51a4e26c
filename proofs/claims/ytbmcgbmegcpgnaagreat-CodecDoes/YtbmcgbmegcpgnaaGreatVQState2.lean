import Derived.Test.YtbmcgbmegcpgnaaGreatVQFirst
import Derived.Test.YtbmcgbmegcpgnaaGreatG1
set_option maxHeartbeats 16000000
set_option maxRecDepth 20000
set_option linter.unusedSimpArgs false
namespace Go.Proofs.YtbmcgbmegcpgnaaGreat
open Go.RowKit
def yu(p:PPlan)(n:Nat)(x:PState):Int:=
 if x.head≠-1/\¬(0<=x.head/\x.head<(p.hs.length:Int))then 1 else if 4<x.cs.length then 2 else if 0<x.cs.length/\p.width x.r []=0 then 1 else or2 (zn (x.cs.map (yn p x.r n))) (yF p.ss.length n x.els)
theorem zin(d:PlanD)(w:World)(hl:d.lie w)(k:Nat)(hk:k<d.states.n)(x:StateD)(hx:d.ss[k]?=some x):
 Calls Tryz.prog 47 #[d.v,.int .i64 k] w fun e w'=>e=.returned (.int .i64 (yu d.p k x.p))/\Below w.heap.size w w':=by
 have U:∀o,Below w.heap.size w (w.alloc o):=fun o=>ze (zof _ _)
 obtain⟨g,off,x',ea,a3,hp⟩:=zu hl.ss hk;obtain rfl:x=x':=by rw[hx]at a3;exact zoq a3
 have a7:d.p.hs.length=d.heads.n:=by simp[PlanD.p,hl.hs.1]
 have a6:d.p.ss.length=d.states.n:=by simp[PlanD.p,hl.ss.1]
 have T:Hid (∀w',Calls Tryz.prog 86 #[.slice d.heads.a d.heads.n d.heads.c,.int .i64 x.head] w' fun e H=>e=.returned (.bool (decide (0<=x.head/\x.head<(d.p.hs.length:Int))))/\H=w'):=fun w'=>by
  rw[a7];exact zbN d.heads.a d.heads.n d.heads.c x.head w'
 have s:Hid (∀w',Below w.heap.size w w'->Calls Tryz.prog 87 #[d.v,.agg #[.int .i64 x.r.h,.int .i64 x.r.f],.slice none 0 0] w' fun e H=>e=.returned (.bool (d.p.width x.r [] !=0))/\Below w'.heap.size w' H):=fun w' h=>zbM d x.r none 0 0 [] w' (hl.step h) (zW _ _)
 have G:Hid (∀w',Calls Tryz.prog 91 #[LV d x k,.int .i64 x.els] w' fun e H=>e=.returned (.int .i64 (yF d.p.ss.length k x.els))/\Below w'.heap.size w' H):=fun w'=>by
  rw[a6];exact zg3 d x k x.els w'
 obtain⟨⟨c0,_⟩,⟨c1,_⟩,⟨c2,_⟩,⟨c3,_⟩,⟨c4,_⟩,P⟩:=hp;have O:=hid P.1;have u:Hid (x.cases.n<=100000->∀w',Below w.heap.size w w'->Calls Tryz.prog 89 #[.slice x.cases.a x.cases.n x.cases.c,.func (.func 90) #[LV d x k] #[]] w' fun e H=>e=.returned (.int .i64 (zn (x.cs.map (yn d.p x.r k))))/\Below w'.heap.size w' H):=fun hs w' h=>
  zc9 (LV d x k) x.cases x.cs (yn d.p x.r k) w' hs (P.step CaseD.keeps h) (fun H h' c hc=>zjX d x k c H (hl.step (zh h h')) (by
   obtain⟨i,hi⟩:=List.getElem?_of_mem hc;obtain⟨g2,a8,_,⟨_,⟨_,hm⟩,_⟩⟩:=P.2 i c hi;have:=bounds_u64 hm;omega))
 have q:Hid (yu d.p k x.p=if x.head≠-1/\¬(0<=x.head/\x.head<(d.p.hs.length:Int))then 1 else if 4<x.cs.length then 2 else if 0<x.cs.length/\d.p.width x.r []=0 then 1 else or2 (zn (x.cs.map (yn d.p x.r k))) (yF d.p.ss.length k x.els)):=rfl
 generalize yF d.p.ss.length k x.els=R at*;generalize zn (x.cs.map (yn d.p x.r k))=FC at*;have L:Hid (∀(w':World),Calls Tryz.prog 88 #[.slice (some ⟨w'.heap.size,0,none⟩) 2 2] (w'.alloc (.cells #[.int .i64 FC,.int .i64 R] 3)) fun e H=>e=.returned (.int .i64 (or2 FC R))/\H=w'.alloc (.cells #[.int .i64 FC,.int .i64 R] 3)):=fun w'=>zbl (b:=w'.heap.size) (x:=FC) (y:=R) (or2 FC R) rfl (by simp) (by simp)
 have a9:(k:Int)<(d.states.n:Int):=by omega
 have k0:∀o,(w.alloc o).cell? ⟨g,off+k*5,none⟩=some (.int .i64 x.head):=fun o=>za c0 (U o)
 have k1:∀o,(w.alloc o).cell? ⟨g,off+k*5+1,none⟩=some (.int .i64 x.r.h):=fun o=>za c1 (U o)
 have k2:∀o,(w.alloc o).cell? ⟨g,off+k*5+2,none⟩=some (.int .i64 x.r.f):=fun o=>za c2 (U o)
 have k3:∀o,(w.alloc o).cell? ⟨g,off+k*5+3,none⟩=some (.slice x.cases.a x.cases.n x.cases.c):=fun o=>za c3 (U o)
 have k4:∀o,(w.alloc o).cell? ⟨g,off+k*5+4,none⟩=some (.int .i64 x.els):=fun o=>za c4 (U o)
 obtain⟨K,hW2⟩:∃K,K=((w.alloc (.cells #[.slice d.heads.a d.heads.n d.heads.c,.slice d.mta.a d.mta.n d.mta.c,.slice (some ⟨g,off,none⟩) d.states.n d.states.c,.slice d.acts.a d.acts.n d.acts.c,.slice d.tabs.a d.tabs.n d.tabs.c,.slice d.nodes.a d.nodes.n d.nodes.c,.slice d.out.a d.out.n d.out.c] 102)).alloc (.cells #[.int .i64 x.head,.int .i64 x.r.h,.int .i64 x.r.f,.slice x.cases.a x.cases.n x.cases.c,.int .i64 x.els] 51)):=⟨_,rfl⟩;obtain⟨b0,hb0⟩:∃b0,b0=w.heap.size:=⟨_,rfl⟩;obtain⟨J,m⟩:∃J,J=w.heap.size+1:=⟨_,rfl⟩;have j0:K.cell? ⟨b0,0,none⟩=some (.slice d.heads.a d.heads.n d.heads.c):=by rw[hW2,hb0];exact(zoe _ _ _ (by simp)).trans ((zod _ _ _ _ rfl).trans rfl)
 have j1:K.cell? ⟨b0,1,none⟩=some (.slice d.mta.a d.mta.n d.mta.c):=by rw[hW2,hb0];exact(zoe _ _ _ (by simp)).trans ((zod _ _ _ _ rfl).trans rfl)
 have j2:K.cell? ⟨b0,2,none⟩=some (.slice (some ⟨g,off,none⟩) d.states.n d.states.c):=by rw[hW2,hb0];exact(zoe _ _ _ (by simp)).trans ((zod _ _ _ _ rfl).trans rfl)
 have j3:K.cell? ⟨b0,3,none⟩=some (.slice d.acts.a d.acts.n d.acts.c):=by rw[hW2,hb0];exact(zoe _ _ _ (by simp)).trans ((zod _ _ _ _ rfl).trans rfl)
 have j4:K.cell? ⟨b0,4,none⟩=some (.slice d.tabs.a d.tabs.n d.tabs.c):=by rw[hW2,hb0];exact(zoe _ _ _ (by simp)).trans ((zod _ _ _ _ rfl).trans rfl)
 have j5:K.cell? ⟨b0,5,none⟩=some (.slice d.nodes.a d.nodes.n d.nodes.c):=by rw[hW2,hb0];exact(zoe _ _ _ (by simp)).trans ((zod _ _ _ _ rfl).trans rfl)
 have j6:K.cell? ⟨b0,6,none⟩=some (.slice d.out.a d.out.n d.out.c):=by rw[hW2,hb0];exact(zoe _ _ _ (by simp)).trans ((zod _ _ _ _ rfl).trans rfl)
 have s0:K.cell? ⟨J,0,none⟩=some (.int .i64 x.head):=by rw[hW2,m];exact(zod _ _ _ _ (by simp)).trans rfl
 have s1:K.cell? ⟨J,1,none⟩=some (.int .i64 x.r.h):=by rw[hW2,m];exact(zod _ _ _ _ (by simp)).trans rfl
 have s2:K.cell? ⟨J,2,none⟩=some (.int .i64 x.r.f):=by rw[hW2,m];exact(zod _ _ _ _ (by simp)).trans rfl
 have s3:K.cell? ⟨J,3,none⟩=some (.slice x.cases.a x.cases.n x.cases.c):=by rw[hW2,m];exact(zod _ _ _ _ (by simp)).trans rfl
 have s4:K.cell? ⟨J,4,none⟩=some (.int .i64 x.els):=by rw[hW2,m];exact(zod _ _ _ _ (by simp)).trans rfl
 have B:Hid (Below w.heap.size w K):=by rw[hW2];exact ze (ze (zof _ _))
 have D:=hid hW2;have M:=hid hb0;have N:=hid m;unfold LV at G u;unfold PlanD.v at s;rw[ea]at G u s;clear hl hx a3 c0 c1 c2 c3 c4 P a7 a6 hW2 hb0 m U;have b3:∀(fn:Fn) (first cap:Array Value) (w:World),(Instr.makeFunc fn first cap).run Tryz.prog w=.ok (.func fn first cap) w:=fun _ _ _ _=>rfl
 by_cases hA:x.head= -1
 ·have bA:(x.head != -1)=false:=by simpa using hA
  have Z:¬(x.head≠-1/\¬(0<=x.head/\x.head<(d.p.hs.length:Int))):=fun h=>h.1 hA
  rw[if_neg Z]at q;clear Z T hA;by_cases S:(4:Int)<(x.cases.n:Int)
  ·have d4:=zoY S;rw[if_pos (by rw[O.out];omega)]at q
   clear S u G L s;go_enter Tryz.func47,Tryz.ntmps47
   go_wp2;go_ret;exact⟨by rw[q.out];rfl,ze (ze (zof _ _))⟩
  have d4:=zoX S;have u:=hid (u.out (by omega))
  rw[if_neg (by rw[O.out];omega)]at q
  by_cases Q:(0:Int)<(x.cases.n:Int)
  ·have d0:decide (0<x.cases.n)=true:=zoY (by omega)
   have a2:=zoY Q;by_cases C:d.p.width x.r []=0
   ·rw[if_pos ⟨by rw[O.out];omega,C⟩]at q
    rw[C]at s;clear S Q C u G L;go_enter Tryz.func47,Tryz.ntmps47
    go_wp2_with fail
    rw[<-D.out];refine(s.out _ B.out).mono ?_;rintro e V ⟨rfl,m⟩;have X:=hid (zh B.out m);clear s m;go_wp2;go_ret;exact⟨by rw[q.out];rfl,X.out⟩
   ·rw[if_neg (fun h=>C h.2)]at q
    have a0:(d.p.width x.r [] !=0)=true:=by simpa using C
    rw[a0]at s;clear S Q C a0;go_enter Tryz.func47,Tryz.ntmps47
    go_wp2_with fail
    rw[<-D.out,<-N.out,<-M.out];clear D N M;refine(s.out _ B.out).mono ?_;rintro e V ⟨rfl,m⟩;have F:=hid (zh B.out m);have j0:=za j0 m;have j1:=za j1 m;have j2:=za j2 m;have j3:=za j3 m;have j4:=za j4 m;have j5:=za j5 m;have j6:=za j6 m;have s0:=za s0 m;have s1:=za s1 m;have s2:=za s2 m;have s3:=za s3 m;have s4:=za s4 m;clear s m B;obtain⟨l,hW3⟩:∃l,l=V.alloc (.cells #[.slice d.heads.a d.heads.n d.heads.c,.slice d.mta.a d.mta.n d.mta.c,.slice (some ⟨g,off,none⟩) d.states.n d.states.c,.slice d.acts.a d.acts.n d.acts.c,.slice d.tabs.a d.tabs.n d.tabs.c,.slice d.nodes.a d.nodes.n d.nodes.c,.slice d.out.a d.out.n d.out.c,.int .i64 x.head,.int .i64 x.r.h,.int .i64 x.r.f,.slice x.cases.a x.cases.n x.cases.c,.int .i64 x.els,.int .i64 (k:Int)] 148):=⟨_,rfl⟩;obtain⟨j,hb2⟩:∃j,j=V.heap.size:=⟨_,rfl⟩;have q3:l.cell? ⟨J,3,none⟩=some (.slice x.cases.a x.cases.n x.cases.c):=by rw[hW3];exact za s3 (ze (zof _ _))
    have q4:l.cell? ⟨J,4,none⟩=some (.int .i64 x.els):=by rw[hW3];exact za s4 (ze (zof _ _))
    have r0:l.cell? ⟨j,0,none⟩=some (.slice d.heads.a d.heads.n d.heads.c):=by rw[hW3,hb2];exact(zod _ _ _ _ rfl).trans rfl
    have r1:l.cell? ⟨j,1,none⟩=some (.slice d.mta.a d.mta.n d.mta.c):=by rw[hW3,hb2];exact(zod _ _ _ _ rfl).trans rfl
    have r2:l.cell? ⟨j,2,none⟩=some (.slice (some ⟨g,off,none⟩) d.states.n d.states.c):=by rw[hW3,hb2];exact(zod _ _ _ _ rfl).trans rfl
    have r3:l.cell? ⟨j,3,none⟩=some (.slice d.acts.a d.acts.n d.acts.c):=by rw[hW3,hb2];exact(zod _ _ _ _ rfl).trans rfl
    have r4:l.cell? ⟨j,4,none⟩=some (.slice d.tabs.a d.tabs.n d.tabs.c):=by rw[hW3,hb2];exact(zod _ _ _ _ rfl).trans rfl
    have r5:l.cell? ⟨j,5,none⟩=some (.slice d.nodes.a d.nodes.n d.nodes.c):=by rw[hW3,hb2];exact(zod _ _ _ _ rfl).trans rfl
    have r6:l.cell? ⟨j,6,none⟩=some (.slice d.out.a d.out.n d.out.c):=by rw[hW3,hb2];exact(zod _ _ _ _ rfl).trans rfl
    have r7:l.cell? ⟨j,7,none⟩=some (.int .i64 x.head):=by rw[hW3,hb2];exact(zod _ _ _ _ rfl).trans rfl
    have r8:l.cell? ⟨j,8,none⟩=some (.int .i64 x.r.h):=by rw[hW3,hb2];exact(zod _ _ _ _ rfl).trans rfl
    have r9:l.cell? ⟨j,9,none⟩=some (.int .i64 x.r.f):=by rw[hW3,hb2];exact(zod _ _ _ _ rfl).trans rfl
    have a4:l.cell? ⟨j,10,none⟩=some (.slice x.cases.a x.cases.n x.cases.c):=by rw[hW3,hb2];exact(zod _ _ _ _ rfl).trans rfl
    have a1:l.cell? ⟨j,11,none⟩=some (.int .i64 x.els):=by rw[hW3,hb2];exact(zod _ _ _ _ rfl).trans rfl
    have a5:l.cell? ⟨j,12,none⟩=some (.int .i64 (k:Int)):=by rw[hW3,hb2];exact(zod _ _ _ _ rfl).trans rfl
    have A:Hid (Below w.heap.size w l):=by rw[hW3];exact ze F.out
    have Y:=hid hW3;have W:=hid hb2;clear hW3 hb2;go_wp2_with fail
    rw[<-Y.out,<-W.out];clear Y W j0 j1 j2 j3 j4 j5 j6 s0 s1 s2 s3 s4 F;go_region_held3 (fun w'=>w'.cell? ⟨J,3,none⟩=some (.slice x.cases.a x.cases.n x.cases.c)/\w'.cell? ⟨J,4,none⟩=some (.int .i64 x.els)/\w'.cell? ⟨j,0,none⟩=some (.slice d.heads.a d.heads.n d.heads.c)/\w'.cell? ⟨j,1,none⟩=some (.slice d.mta.a d.mta.n d.mta.c)/\w'.cell? ⟨j,2,none⟩=some (.slice (some ⟨g,off,none⟩) d.states.n d.states.c)/\w'.cell? ⟨j,3,none⟩=some (.slice d.acts.a d.acts.n d.acts.c)/\w'.cell? ⟨j,4,none⟩=some (.slice d.tabs.a d.tabs.n d.tabs.c)/\w'.cell? ⟨j,5,none⟩=some (.slice d.nodes.a d.nodes.n d.nodes.c)/\w'.cell? ⟨j,6,none⟩=some (.slice d.out.a d.out.n d.out.c)/\w'.cell? ⟨j,7,none⟩=some (.int .i64 x.head)/\w'.cell? ⟨j,8,none⟩=some (.int .i64 x.r.h)/\w'.cell? ⟨j,9,none⟩=some (.int .i64 x.r.f)/\w'.cell? ⟨j,10,none⟩=some (.slice x.cases.a x.cases.n x.cases.c)/\w'.cell? ⟨j,11,none⟩=some (.int .i64 x.els)/\w'.cell? ⟨j,12,none⟩=some (.int .i64 (k:Int)))
     (first
      |go_keep
      |(go_split_ands
        exact zd8 ⟨by assumption,by assumption,by assumption,by assumption,by assumption,by assumption,by assumption,by assumption,by assumption,by assumption,by assumption,by assumption,by assumption,by assumption,by assumption⟩ t))
     (first
      |(go_at_call 89;refine(u.out _ (zh A.out (zof l.heap.size l).drew)).mono ?_;rintro e wx ⟨rfl,t⟩;have I:=hid t)
      |(go_at_call 91;refine(G.out _).mono ?_;rintro e wx ⟨rfl,t⟩;have E:=hid t)
      |(go_at_call 88;refine(L.out _).mono ?_;rintro e wz ⟨rfl,rfl⟩))
    all_goals
     have X:=hid (ze (o:=.cells #[.int .i64 FC,.int .i64 R] 3) (zh (zh (zh A.out (zof l.heap.size l).drew) I.out) E.out));clear A I E;go_wp2;go_ret;exact⟨by rw[q.out];rfl,X.out⟩
  ·have d0:decide (0<x.cases.n)=false:=zoX (by omega)
   have a2:=zoX Q;rw[if_neg (fun h=>Q (by have:=h.1;rw[O.out]at this;omega))]at q
   have F:=hid B.out;clear S Q s B;obtain⟨l,hW3⟩:∃l,l=K.alloc (.cells #[.slice d.heads.a d.heads.n d.heads.c,.slice d.mta.a d.mta.n d.mta.c,.slice (some ⟨g,off,none⟩) d.states.n d.states.c,.slice d.acts.a d.acts.n d.acts.c,.slice d.tabs.a d.tabs.n d.tabs.c,.slice d.nodes.a d.nodes.n d.nodes.c,.slice d.out.a d.out.n d.out.c,.int .i64 x.head,.int .i64 x.r.h,.int .i64 x.r.f,.slice x.cases.a x.cases.n x.cases.c,.int .i64 x.els,.int .i64 (k:Int)] 148):=⟨_,rfl⟩;obtain⟨j,hb2⟩:∃j,j=K.heap.size:=⟨_,rfl⟩;have q3:l.cell? ⟨J,3,none⟩=some (.slice x.cases.a x.cases.n x.cases.c):=by rw[hW3];exact za s3 (ze (zof _ _))
   have q4:l.cell? ⟨J,4,none⟩=some (.int .i64 x.els):=by rw[hW3];exact za s4 (ze (zof _ _))
   have r0:l.cell? ⟨j,0,none⟩=some (.slice d.heads.a d.heads.n d.heads.c):=by rw[hW3,hb2];exact(zod _ _ _ _ rfl).trans rfl
   have r1:l.cell? ⟨j,1,none⟩=some (.slice d.mta.a d.mta.n d.mta.c):=by rw[hW3,hb2];exact(zod _ _ _ _ rfl).trans rfl
   have r2:l.cell? ⟨j,2,none⟩=some (.slice (some ⟨g,off,none⟩) d.states.n d.states.c):=by rw[hW3,hb2];exact(zod _ _ _ _ rfl).trans rfl
   have r3:l.cell? ⟨j,3,none⟩=some (.slice d.acts.a d.acts.n d.acts.c):=by rw[hW3,hb2];exact(zod _ _ _ _ rfl).trans rfl
   have r4:l.cell? ⟨j,4,none⟩=some (.slice d.tabs.a d.tabs.n d.tabs.c):=by rw[hW3,hb2];exact(zod _ _ _ _ rfl).trans rfl
   have r5:l.cell? ⟨j,5,none⟩=some (.slice d.nodes.a d.nodes.n d.nodes.c):=by rw[hW3,hb2];exact(zod _ _ _ _ rfl).trans rfl
   have r6:l.cell? ⟨j,6,none⟩=some (.slice d.out.a d.out.n d.out.c):=by rw[hW3,hb2];exact(zod _ _ _ _ rfl).trans rfl
   have r7:l.cell? ⟨j,7,none⟩=some (.int .i64 x.head):=by rw[hW3,hb2];exact(zod _ _ _ _ rfl).trans rfl
   have r8:l.cell? ⟨j,8,none⟩=some (.int .i64 x.r.h):=by rw[hW3,hb2];exact(zod _ _ _ _ rfl).trans rfl
   have r9:l.cell? ⟨j,9,none⟩=some (.int .i64 x.r.f):=by rw[hW3,hb2];exact(zod _ _ _ _ rfl).trans rfl
   have a4:l.cell? ⟨j,10,none⟩=some (.slice x.cases.a x.cases.n x.cases.c):=by rw[hW3,hb2];exact(zod _ _ _ _ rfl).trans rfl
   have a1:l.cell? ⟨j,11,none⟩=some (.int .i64 x.els):=by rw[hW3,hb2];exact(zod _ _ _ _ rfl).trans rfl
   have a5:l.cell? ⟨j,12,none⟩=some (.int .i64 (k:Int)):=by rw[hW3,hb2];exact(zod _ _ _ _ rfl).trans rfl
   have A:Hid (Below w.heap.size w l):=by rw[hW3];exact ze F.out
   have Y:=hid hW3;have W:=hid hb2;clear hW3 hb2;go_enter Tryz.func47,Tryz.ntmps47
   go_wp2_with fail
   rw[show ∀o,(((w.alloc (.cells #[.slice d.heads.a d.heads.n d.heads.c,.slice d.mta.a d.mta.n d.mta.c,.slice (some ⟨g,off,none⟩) d.states.n d.states.c,.slice d.acts.a d.acts.n d.acts.c,.slice d.tabs.a d.tabs.n d.tabs.c,.slice d.nodes.a d.nodes.n d.nodes.c,.slice d.out.a d.out.n d.out.c] 102)).alloc (.cells #[.int .i64 x.head,.int .i64 x.r.h,.int .i64 x.r.f,.slice x.cases.a x.cases.n x.cases.c,.int .i64 x.els] 51)).alloc o)=K.alloc o from fun o=>by rw[D.out]]
   rw[<-Y.out,show w.heap.size+1+1=j from(by rw[W.out,D.out];simp),<-N.out,<-M.out]
   clear D N M Y W j0 j1 j2 j3 j4 j5 j6 s0 s1 s2 s3 s4 F;go_region_held3 (fun w'=>w'.cell? ⟨J,3,none⟩=some (.slice x.cases.a x.cases.n x.cases.c)/\w'.cell? ⟨J,4,none⟩=some (.int .i64 x.els)/\w'.cell? ⟨j,0,none⟩=some (.slice d.heads.a d.heads.n d.heads.c)/\w'.cell? ⟨j,1,none⟩=some (.slice d.mta.a d.mta.n d.mta.c)/\w'.cell? ⟨j,2,none⟩=some (.slice (some ⟨g,off,none⟩) d.states.n d.states.c)/\w'.cell? ⟨j,3,none⟩=some (.slice d.acts.a d.acts.n d.acts.c)/\w'.cell? ⟨j,4,none⟩=some (.slice d.tabs.a d.tabs.n d.tabs.c)/\w'.cell? ⟨j,5,none⟩=some (.slice d.nodes.a d.nodes.n d.nodes.c)/\w'.cell? ⟨j,6,none⟩=some (.slice d.out.a d.out.n d.out.c)/\w'.cell? ⟨j,7,none⟩=some (.int .i64 x.head)/\w'.cell? ⟨j,8,none⟩=some (.int .i64 x.r.h)/\w'.cell? ⟨j,9,none⟩=some (.int .i64 x.r.f)/\w'.cell? ⟨j,10,none⟩=some (.slice x.cases.a x.cases.n x.cases.c)/\w'.cell? ⟨j,11,none⟩=some (.int .i64 x.els)/\w'.cell? ⟨j,12,none⟩=some (.int .i64 (k:Int)))
    (first
     |go_keep
     |(go_split_ands
       exact zd8 ⟨by assumption,by assumption,by assumption,by assumption,by assumption,by assumption,by assumption,by assumption,by assumption,by assumption,by assumption,by assumption,by assumption,by assumption,by assumption⟩ t))
    (first
     |(go_at_call 89;refine(u.out _ (zh A.out (zof l.heap.size l).drew)).mono ?_;rintro e wx ⟨rfl,t⟩;have I:=hid t)
     |(go_at_call 91;refine(G.out _).mono ?_;rintro e wx ⟨rfl,t⟩;have E:=hid t)
     |(go_at_call 88;refine(L.out _).mono ?_;rintro e wz ⟨rfl,rfl⟩))
   all_goals
    have X:=hid (ze (o:=.cells #[.int .i64 FC,.int .i64 R] 3) (zh (zh (zh A.out (zof l.heap.size l).drew) I.out) E.out));clear A I E;go_wp2;go_ret;exact⟨by rw[q.out];rfl,X.out⟩
 have bA:(x.head != -1)=true:=by simpa using hA
 by_cases hH:0<=x.head/\x.head<(d.p.hs.length:Int)
 ·have Z:¬(x.head≠-1/\¬(0<=x.head/\x.head<(d.p.hs.length:Int))):=fun h=>h.2 hH
  rw[if_neg Z]at q;rw[zoY hH]at T;clear Z hA hH;by_cases S:(4:Int)<(x.cases.n:Int)
  ·have d4:=zoY S;rw[if_pos (by rw[O.out];omega)]at q
   clear S u G L s;go_enter Tryz.func47,Tryz.ntmps47
   go_wp2_with fail
   refine(T.out _).mono ?_;rintro e V ⟨rfl,rfl⟩;clear T;go_wp2;go_ret;exact⟨by rw[q.out];rfl,ze (ze (zof _ _))⟩
  have d4:=zoX S;have u:=hid (u.out (by omega))
  rw[if_neg (by rw[O.out];omega)]at q
  by_cases Q:(0:Int)<(x.cases.n:Int)
  ·have d0:decide (0<x.cases.n)=true:=zoY (by omega)
   have a2:=zoY Q;by_cases C:d.p.width x.r []=0
   ·rw[if_pos ⟨by rw[O.out];omega,C⟩]at q
    rw[C]at s;clear S Q C u G L;go_enter Tryz.func47,Tryz.ntmps47
    go_wp2_with fail
    refine(T.out _).mono ?_;rintro e V ⟨rfl,rfl⟩;clear T;go_wp2_with fail
    rw[<-D.out];refine(s.out _ B.out).mono ?_;rintro e V ⟨rfl,m⟩;have X:=hid (zh B.out m);clear s m;go_wp2;go_ret;exact⟨by rw[q.out];rfl,X.out⟩
   ·rw[if_neg (fun h=>C h.2)]at q
    have a0:(d.p.width x.r [] !=0)=true:=by simpa using C
    rw[a0]at s;clear S Q C a0;go_enter Tryz.func47,Tryz.ntmps47
    go_wp2_with fail
    refine(T.out _).mono ?_;rintro e V ⟨rfl,rfl⟩;clear T;go_wp2_with fail
    rw[<-D.out,<-N.out,<-M.out];clear D N M;refine(s.out _ B.out).mono ?_;rintro e V ⟨rfl,m⟩;have F:=hid (zh B.out m);have j0:=za j0 m;have j1:=za j1 m;have j2:=za j2 m;have j3:=za j3 m;have j4:=za j4 m;have j5:=za j5 m;have j6:=za j6 m;have s0:=za s0 m;have s1:=za s1 m;have s2:=za s2 m;have s3:=za s3 m;have s4:=za s4 m;clear s m B;obtain⟨l,hW3⟩:∃l,l=V.alloc (.cells #[.slice d.heads.a d.heads.n d.heads.c,.slice d.mta.a d.mta.n d.mta.c,.slice (some ⟨g,off,none⟩) d.states.n d.states.c,.slice d.acts.a d.acts.n d.acts.c,.slice d.tabs.a d.tabs.n d.tabs.c,.slice d.nodes.a d.nodes.n d.nodes.c,.slice d.out.a d.out.n d.out.c,.int .i64 x.head,.int .i64 x.r.h,.int .i64 x.r.f,.slice x.cases.a x.cases.n x.cases.c,.int .i64 x.els,.int .i64 (k:Int)] 148):=⟨_,rfl⟩;obtain⟨j,hb2⟩:∃j,j=V.heap.size:=⟨_,rfl⟩;have q3:l.cell? ⟨J,3,none⟩=some (.slice x.cases.a x.cases.n x.cases.c):=by rw[hW3];exact za s3 (ze (zof _ _))
    have q4:l.cell? ⟨J,4,none⟩=some (.int .i64 x.els):=by rw[hW3];exact za s4 (ze (zof _ _))
    have r0:l.cell? ⟨j,0,none⟩=some (.slice d.heads.a d.heads.n d.heads.c):=by rw[hW3,hb2];exact(zod _ _ _ _ rfl).trans rfl
    have r1:l.cell? ⟨j,1,none⟩=some (.slice d.mta.a d.mta.n d.mta.c):=by rw[hW3,hb2];exact(zod _ _ _ _ rfl).trans rfl
    have r2:l.cell? ⟨j,2,none⟩=some (.slice (some ⟨g,off,none⟩) d.states.n d.states.c):=by rw[hW3,hb2];exact(zod _ _ _ _ rfl).trans rfl
    have r3:l.cell? ⟨j,3,none⟩=some (.slice d.acts.a d.acts.n d.acts.c):=by rw[hW3,hb2];exact(zod _ _ _ _ rfl).trans rfl
    have r4:l.cell? ⟨j,4,none⟩=some (.slice d.tabs.a d.tabs.n d.tabs.c):=by rw[hW3,hb2];exact(zod _ _ _ _ rfl).trans rfl
    have r5:l.cell? ⟨j,5,none⟩=some (.slice d.nodes.a d.nodes.n d.nodes.c):=by rw[hW3,hb2];exact(zod _ _ _ _ rfl).trans rfl
    have r6:l.cell? ⟨j,6,none⟩=some (.slice d.out.a d.out.n d.out.c):=by rw[hW3,hb2];exact(zod _ _ _ _ rfl).trans rfl
    have r7:l.cell? ⟨j,7,none⟩=some (.int .i64 x.head):=by rw[hW3,hb2];exact(zod _ _ _ _ rfl).trans rfl
    have r8:l.cell? ⟨j,8,none⟩=some (.int .i64 x.r.h):=by rw[hW3,hb2];exact(zod _ _ _ _ rfl).trans rfl
    have r9:l.cell? ⟨j,9,none⟩=some (.int .i64 x.r.f):=by rw[hW3,hb2];exact(zod _ _ _ _ rfl).trans rfl
    have a4:l.cell? ⟨j,10,none⟩=some (.slice x.cases.a x.cases.n x.cases.c):=by rw[hW3,hb2];exact(zod _ _ _ _ rfl).trans rfl
    have a1:l.cell? ⟨j,11,none⟩=some (.int .i64 x.els):=by rw[hW3,hb2];exact(zod _ _ _ _ rfl).trans rfl
    have a5:l.cell? ⟨j,12,none⟩=some (.int .i64 (k:Int)):=by rw[hW3,hb2];exact(zod _ _ _ _ rfl).trans rfl
    have A:Hid (Below w.heap.size w l):=by rw[hW3];exact ze F.out
    have Y:=hid hW3;have W:=hid hb2;clear hW3 hb2;go_wp2_with fail
    rw[<-Y.out,<-W.out];clear Y W j0 j1 j2 j3 j4 j5 j6 s0 s1 s2 s3 s4 F;go_region_held3 (fun w'=>w'.cell? ⟨J,3,none⟩=some (.slice x.cases.a x.cases.n x.cases.c)/\w'.cell? ⟨J,4,none⟩=some (.int .i64 x.els)/\w'.cell? ⟨j,0,none⟩=some (.slice d.heads.a d.heads.n d.heads.c)/\w'.cell? ⟨j,1,none⟩=some (.slice d.mta.a d.mta.n d.mta.c)/\w'.cell? ⟨j,2,none⟩=some (.slice (some ⟨g,off,none⟩) d.states.n d.states.c)/\w'.cell? ⟨j,3,none⟩=some (.slice d.acts.a d.acts.n d.acts.c)/\w'.cell? ⟨j,4,none⟩=some (.slice d.tabs.a d.tabs.n d.tabs.c)/\w'.cell? ⟨j,5,none⟩=some (.slice d.nodes.a d.nodes.n d.nodes.c)/\w'.cell? ⟨j,6,none⟩=some (.slice d.out.a d.out.n d.out.c)/\w'.cell? ⟨j,7,none⟩=some (.int .i64 x.head)/\w'.cell? ⟨j,8,none⟩=some (.int .i64 x.r.h)/\w'.cell? ⟨j,9,none⟩=some (.int .i64 x.r.f)/\w'.cell? ⟨j,10,none⟩=some (.slice x.cases.a x.cases.n x.cases.c)/\w'.cell? ⟨j,11,none⟩=some (.int .i64 x.els)/\w'.cell? ⟨j,12,none⟩=some (.int .i64 (k:Int)))
     (first
      |go_keep
      |(go_split_ands
        exact zd8 ⟨by assumption,by assumption,by assumption,by assumption,by assumption,by assumption,by assumption,by assumption,by assumption,by assumption,by assumption,by assumption,by assumption,by assumption,by assumption⟩ t))
     (first
      |(go_at_call 89;refine(u.out _ (zh A.out (zof l.heap.size l).drew)).mono ?_;rintro e wx ⟨rfl,t⟩;have I:=hid t)
      |(go_at_call 91;refine(G.out _).mono ?_;rintro e wx ⟨rfl,t⟩;have E:=hid t)
      |(go_at_call 88;refine(L.out _).mono ?_;rintro e wz ⟨rfl,rfl⟩))
    all_goals
     have X:=hid (ze (o:=.cells #[.int .i64 FC,.int .i64 R] 3) (zh (zh (zh A.out (zof l.heap.size l).drew) I.out) E.out));clear A I E;go_wp2;go_ret;exact⟨by rw[q.out];rfl,X.out⟩
  ·have d0:decide (0<x.cases.n)=false:=zoX (by omega)
   have a2:=zoX Q;rw[if_neg (fun h=>Q (by have:=h.1;rw[O.out]at this;omega))]at q
   have F:=hid B.out;clear S Q s B;obtain⟨l,hW3⟩:∃l,l=K.alloc (.cells #[.slice d.heads.a d.heads.n d.heads.c,.slice d.mta.a d.mta.n d.mta.c,.slice (some ⟨g,off,none⟩) d.states.n d.states.c,.slice d.acts.a d.acts.n d.acts.c,.slice d.tabs.a d.tabs.n d.tabs.c,.slice d.nodes.a d.nodes.n d.nodes.c,.slice d.out.a d.out.n d.out.c,.int .i64 x.head,.int .i64 x.r.h,.int .i64 x.r.f,.slice x.cases.a x.cases.n x.cases.c,.int .i64 x.els,.int .i64 (k:Int)] 148):=⟨_,rfl⟩;obtain⟨j,hb2⟩:∃j,j=K.heap.size:=⟨_,rfl⟩;have q3:l.cell? ⟨J,3,none⟩=some (.slice x.cases.a x.cases.n x.cases.c):=by rw[hW3];exact za s3 (ze (zof _ _))
   have q4:l.cell? ⟨J,4,none⟩=some (.int .i64 x.els):=by rw[hW3];exact za s4 (ze (zof _ _))
   have r0:l.cell? ⟨j,0,none⟩=some (.slice d.heads.a d.heads.n d.heads.c):=by rw[hW3,hb2];exact(zod _ _ _ _ rfl).trans rfl
   have r1:l.cell? ⟨j,1,none⟩=some (.slice d.mta.a d.mta.n d.mta.c):=by rw[hW3,hb2];exact(zod _ _ _ _ rfl).trans rfl
   have r2:l.cell? ⟨j,2,none⟩=some (.slice (some ⟨g,off,none⟩) d.states.n d.states.c):=by rw[hW3,hb2];exact(zod _ _ _ _ rfl).trans rfl
   have r3:l.cell? ⟨j,3,none⟩=some (.slice d.acts.a d.acts.n d.acts.c):=by rw[hW3,hb2];exact(zod _ _ _ _ rfl).trans rfl
   have r4:l.cell? ⟨j,4,none⟩=some (.slice d.tabs.a d.tabs.n d.tabs.c):=by rw[hW3,hb2];exact(zod _ _ _ _ rfl).trans rfl
   have r5:l.cell? ⟨j,5,none⟩=some (.slice d.nodes.a d.nodes.n d.nodes.c):=by rw[hW3,hb2];exact(zod _ _ _ _ rfl).trans rfl
   have r6:l.cell? ⟨j,6,none⟩=some (.slice d.out.a d.out.n d.out.c):=by rw[hW3,hb2];exact(zod _ _ _ _ rfl).trans rfl
   have r7:l.cell? ⟨j,7,none⟩=some (.int .i64 x.head):=by rw[hW3,hb2];exact(zod _ _ _ _ rfl).trans rfl
   have r8:l.cell? ⟨j,8,none⟩=some (.int .i64 x.r.h):=by rw[hW3,hb2];exact(zod _ _ _ _ rfl).trans rfl
   have r9:l.cell? ⟨j,9,none⟩=some (.int .i64 x.r.f):=by rw[hW3,hb2];exact(zod _ _ _ _ rfl).trans rfl
   have a4:l.cell? ⟨j,10,none⟩=some (.slice x.cases.a x.cases.n x.cases.c):=by rw[hW3,hb2];exact(zod _ _ _ _ rfl).trans rfl
   have a1:l.cell? ⟨j,11,none⟩=some (.int .i64 x.els):=by rw[hW3,hb2];exact(zod _ _ _ _ rfl).trans rfl
   have a5:l.cell? ⟨j,12,none⟩=some (.int .i64 (k:Int)):=by rw[hW3,hb2];exact(zod _ _ _ _ rfl).trans rfl
   have A:Hid (Below w.heap.size w l):=by rw[hW3];exact ze F.out
   have Y:=hid hW3;have W:=hid hb2;clear hW3 hb2;go_enter Tryz.func47,Tryz.ntmps47
   go_wp2_with fail
   refine(T.out _).mono ?_;rintro e V ⟨rfl,rfl⟩;clear T;go_wp2_with fail
   rw[show ∀o,(((w.alloc (.cells #[.slice d.heads.a d.heads.n d.heads.c,.slice d.mta.a d.mta.n d.mta.c,.slice (some ⟨g,off,none⟩) d.states.n d.states.c,.slice d.acts.a d.acts.n d.acts.c,.slice d.tabs.a d.tabs.n d.tabs.c,.slice d.nodes.a d.nodes.n d.nodes.c,.slice d.out.a d.out.n d.out.c] 102)).alloc (.cells #[.int .i64 x.head,.int .i64 x.r.h,.int .i64 x.r.f,.slice x.cases.a x.cases.n x.cases.c,.int .i64 x.els] 51)).alloc o)=K.alloc o from fun o=>by rw[D.out]]
   rw[<-Y.out,show w.heap.size+1+1=j from(by rw[W.out,D.out];simp),<-N.out,<-M.out]
   clear D N M Y W j0 j1 j2 j3 j4 j5 j6 s0 s1 s2 s3 s4 F;go_region_held3 (fun w'=>w'.cell? ⟨J,3,none⟩=some (.slice x.cases.a x.cases.n x.cases.c)/\w'.cell? ⟨J,4,none⟩=some (.int .i64 x.els)/\w'.cell? ⟨j,0,none⟩=some (.slice d.heads.a d.heads.n d.heads.c)/\w'.cell? ⟨j,1,none⟩=some (.slice d.mta.a d.mta.n d.mta.c)/\w'.cell? ⟨j,2,none⟩=some (.slice (some ⟨g,off,none⟩) d.states.n d.states.c)/\w'.cell? ⟨j,3,none⟩=some (.slice d.acts.a d.acts.n d.acts.c)/\w'.cell? ⟨j,4,none⟩=some (.slice d.tabs.a d.tabs.n d.tabs.c)/\w'.cell? ⟨j,5,none⟩=some (.slice d.nodes.a d.nodes.n d.nodes.c)/\w'.cell? ⟨j,6,none⟩=some (.slice d.out.a d.out.n d.out.c)/\w'.cell? ⟨j,7,none⟩=some (.int .i64 x.head)/\w'.cell? ⟨j,8,none⟩=some (.int .i64 x.r.h)/\w'.cell? ⟨j,9,none⟩=some (.int .i64 x.r.f)/\w'.cell? ⟨j,10,none⟩=some (.slice x.cases.a x.cases.n x.cases.c)/\w'.cell? ⟨j,11,none⟩=some (.int .i64 x.els)/\w'.cell? ⟨j,12,none⟩=some (.int .i64 (k:Int)))
    (first
     |go_keep
     |(go_split_ands
       exact zd8 ⟨by assumption,by assumption,by assumption,by assumption,by assumption,by assumption,by assumption,by assumption,by assumption,by assumption,by assumption,by assumption,by assumption,by assumption,by assumption⟩ t))
    (first
     |(go_at_call 89;refine(u.out _ (zh A.out (zof l.heap.size l).drew)).mono ?_;rintro e wx ⟨rfl,t⟩;have I:=hid t)
     |(go_at_call 91;refine(G.out _).mono ?_;rintro e wx ⟨rfl,t⟩;have E:=hid t)
     |(go_at_call 88;refine(L.out _).mono ?_;rintro e wz ⟨rfl,rfl⟩))
   all_goals
    have X:=hid (ze (o:=.cells #[.int .i64 FC,.int .i64 R] 3) (zh (zh (zh A.out (zof l.heap.size l).drew) I.out) E.out));clear A I E;go_wp2;go_ret;exact⟨by rw[q.out];rfl,X.out⟩
 ·rw[if_pos ⟨hA,hH⟩]at q;rw[zoX hH]at T;clear hA hH u G L s;go_enter Tryz.func47,Tryz.ntmps47
  go_wp2_with fail
  refine(T.out _).mono ?_;rintro e V ⟨rfl,rfl⟩;clear T;go_wp2;go_ret;exact⟨by rw[q.out];rfl,ze (ze (zof _ _))⟩
end Go.Proofs.YtbmcgbmegcpgnaaGreat
