import Derived.Test.YtbmcgbmegcpgnaaGreatVQRules2
import Derived.Test.YtbmcgbmegcpgnaaGreatG4
set_option maxHeartbeats 16000000
set_option maxRecDepth 20000
set_option linter.unusedSimpArgs false
namespace Go.Proofs.YtbmcgbmegcpgnaaGreat
open Go.RowKit
theorem zj0(n:Int)(h: -9223372036854775808<=n/\n<9223372036854775808):(Lit.int .i64 n).wf=true:=by
 simp[Lit.wf,IntKind.min,IntKind.max,IntKind.bits,IntKind.signed];omega
def xM(al:List PAct)(a:List Int)(dflt:Int)(zs:List Int):Int:=if dflt∈a then zcQ zs (al.getD dflt.toNat ⟨[],[]⟩).ws else 5
def zJ(t:PTab)(a:List Int)(al:List PAct):Int:=
 if isK t.kind=false then 5 else if InC 1 (kr t.kind) [(a.length:Int)]=false\/InC 1 4 [(t.al.length:Int)]=false then 2 else if InC 0 16 [t.cap]=false then 1 else if InC 1 48 a=false then 6 else if InC 0 ((al.length:Int)-1) t.al=false then 1 else xM al t.al t.dflt t.zs
theorem zlI{al:List ActD}{a:List Int}{S:List SayD}{dflt C:Int}{zs:List Int}(h:S.map (fun s=>(s.act,s.ps))=ze0 al a)(hs:zdB S dflt zs C):C=xM (al.map ActD.p) a dflt zs:=by
 have c:∀s∈S,s.act∈a/\s.ps=(al.getD s.act.toNat ActD.z).ws:=by
  intro s hs;have:(s.act,s.ps)∈ze0 al a:=by rw[<-h];exact zoJ.2 ⟨s,hs,rfl⟩
  obtain⟨i,hi,e⟩:=zoJ.1 this;simp only[Prod.mk.injEq]at e;obtain⟨j,m⟩:=e;subst j;exact⟨hi,m.symm⟩
 have l:∀k:Nat,((al.map ActD.p).getD k ⟨[],[]⟩).ws=(al.getD k ActD.z).ws:=by
  intro k;simp only[zoi,zoy];cases al[k]?<;>rfl
 unfold xM;rcases hs with⟨b,rfl⟩|⟨s,hs,ha,rfl⟩
 ·have:dflt ∉ a:=by
   intro g;have:(dflt,(al.getD dflt.toNat ActD.z).ws)∈S.map (fun s=>(s.act,s.ps)):=by rw[h];exact zoJ.2 ⟨dflt,g,rfl⟩
   obtain⟨s,hs,e⟩:=zoJ.1 this;simp only[Prod.mk.injEq]at e;exact b s hs e.1
  rw[if_neg this]
 ·obtain⟨f,d⟩:=c s hs;rw[ha]at f d;rw[if_pos f,l,d]
theorem zmu(w:World)(cs:Array Value)(a:TypeId)(o1 o2 o3:Obj)(i:Nat)(v:Value)(h:cs[i]?=some v):((((w.alloc (.cells cs a)).alloc o1).alloc o2).alloc o3).cell? ⟨w.heap.size,i,none⟩=some v:=
 (zoe _ _ _ (by simp;omega)).trans ((zoe _ _ _ (by simp;omega)).trans ((zoe _ _ _ (by simp)).trans ((zod _ _ _ _ rfl).trans h)))
theorem zeN(t:TabD)(wq:QSl)(y:List Int)(l:QSl)(al:List ActD)(w:World)(hw:Has .i64 w wq.a wq.n y)(P:wq.nil0)(N:wq.n<=100000)(E:(Lit.int .i64 t.cap).wf=true)(O:Has .i64 w t.acts.a t.acts.n t.al)(a3:t.acts.n<=10000)(hz:Has .u64 w t.args.a t.args.n t.zs)(a1:t.args.n<=100000)(ha:QRow 2 ActD.lie w l al)(a5:l.n<=100000)(G:∀x∈al,x.w.n<=100000):
 Calls Tryz.prog 97 #[t.v',.slice wq.a wq.n wq.c,.slice l.a l.n l.c] w fun e w'=>e=.returned (.int .i64 (zJ t.p y (al.map ActD.p)))/\Below w.heap.size w w':=by
 have Y:∀o,Below w.heap.size w (w.alloc o):=fun o=>ze (zof _ _)
 have r:Hid (∀w',Calls Tryz.prog 136 #[.int .i64 t.kind] w' fun e j=>e=.returned (.bool (isK t.kind))/\j=w'):=fun w'=>zio t.kind w'
 have L:Hid (∀w',Calls Tryz.prog 138 #[.int .i64 t.kind] w' fun e j=>e=.returned (.int .i64 (kr t.kind))/\j=w'):=fun w'=>zip t.kind w'
 have B:Hid (∀(lo hi x:Int),(Lit.int .i64 x).wf=true->∀(w':World) (b:Nat),b=w'.heap.size->Calls Tryz.prog 137 #[.int .i64 lo,.int .i64 hi,.slice (some ⟨b,0,none⟩) 1 1] (w'.alloc (.cells #[.int .i64 x] 3)) fun e j=>e=.returned (.bool (InC lo hi [x]))/\j=w'.alloc (.cells #[.int .i64 x] 3)):=fun lo hi x hx w' b hb=>by
  subst hb;exact zaj lo hi _ 1 1 [x] _ (by omega) (qi w' x hx)
 have J:=hid (B.out 1 (kr t.kind) (wq.n:Int) (zj0 _ (by omega)))
 have D:=hid (B.out 1 4 (t.acts.n:Int) (zj0 _ (by omega)))
 have s:=hid (B.out 0 16 t.cap E);have q:Hid (∀w',Below w.heap.size w w'->Calls Tryz.prog 137 #[.int .i64 1,.int .i64 48,.slice wq.a wq.n wq.c] w' fun e j=>e=.returned (.bool (InC 1 48 y))/\j=w'):=fun w' h=>zaj 1 48 _ _ _ y w' N (hw.step h)
 have k:Hid (∀w',Below w.heap.size w w'->Calls Tryz.prog 137 #[.int .i64 0,.int .i64 ((l.n:Int)-1),.slice t.acts.a t.acts.n t.acts.c] w' fun e j=>e=.returned (.bool (InC 0 ((l.n:Int)-1) t.al))/\j=w'):=fun w' h=>zaj 0 _ _ _ _ t.al w' (by omega) (O.step h)
 have f:Hid (InC 0 ((l.n:Int)-1) t.al=true->∀w',Below w.heap.size w w'->Calls Tryz.prog 139 #[t.v',.slice wq.a wq.n wq.c,.slice l.a l.n l.c] w' (kD t.kind y al t.al w')):=fun a2 w' h=>
  ze4 t wq y l al w' (hw.step h) P N (O.step h) a3 (ha.step ActD.keeps h) (fun i hi=>by
   have:=List.all_eq_true.1 a2 i hi;have:=of_decide_eq_true this;omega) G
 have HZ:=hid hz;have d:Hid (zJ t.p y (al.map ActD.p)=if isK t.kind=false then 5 else if InC 1 (kr t.kind) [(wq.n:Int)]=false\/InC 1 4 [(t.acts.n:Int)]=false then 2 else if InC 0 16 [t.cap]=false then 1 else if InC 1 48 y=false then 6 else if InC 0 ((l.n:Int)-1) t.al=false then 1 else xM (al.map ActD.p) t.al t.dflt t.zs):=by
  show zJ t.p y (al.map ActD.p)=_;unfold zJ;rw[hw.1,zoE,ha.1,show t.p.al.length=t.acts.n from O.1]
  rfl
 have a0:=hid O.1;clear hw P O hz ha G E B;cases M:isK t.kind with
 |false=>
  rw[M]at r;rw[if_pos M]at d;clear L J D s q k f M;go_enter Tryz.func97,Tryz.ntmps97
  go_wp2_with fail
  refine(r.out _).mono ?_;rintro e g ⟨rfl,rfl⟩;clear r;go_wp2;go_ret;exact⟨by rw[d.out];rfl,Y _⟩
 |true=>
  rw[M]at r;rw[if_neg (by rw[M];decide)]at d
  clear M;go_enter Tryz.func97,Tryz.ntmps97
  go_wp2_with fail
  refine(r.out _).mono ?_;rintro e g ⟨rfl,rfl⟩;clear r;go_wp2_with fail
  refine(L.out _).mono ?_;rintro e g ⟨rfl,rfl⟩;clear L;go_wp2_with fail
  refine(J.out _ _ (by simp)).mono ?_
  rintro e g ⟨rfl,rfl⟩;clear J;cases Q:InC 1 (kr t.kind) [(wq.n:Int)]with
  |false=>
   rw[if_pos (.inl Q)]at d;clear D s q k f Q;go_wp2;go_ret;exact⟨by rw[d.out];rfl,(ze (ze (zof w.heap.size w)))⟩
  |true=>
   go_wp2_with fail
   refine(D.out _ _ (by simp)).mono ?_
   rintro e g ⟨rfl,rfl⟩;clear D;cases W:InC 1 4 [(t.acts.n:Int)]with
   |false=>
    rw[if_pos (.inr W)]at d;clear s q k f Q W;go_wp2;go_ret;exact⟨by rw[d.out];rfl,(ze (ze (ze (zof w.heap.size w))))⟩
   |true=>
    rw[if_neg (fun h=>h.elim (fun h=>by rw[Q]at h;cases h) (fun h=>by rw[W]at h;cases h))]at d
    clear Q W;go_wp2_with fail
    refine(s.out _ _ (by simp)).mono ?_
    rintro e g ⟨rfl,rfl⟩;clear s;cases K:InC 0 16 [t.cap]with
    |false=>
     rw[if_pos K]at d;clear q k f K;go_wp2;go_ret;exact⟨by rw[d.out];rfl,(ze (ze (ze (ze (zof w.heap.size w)))))⟩
    |true=>
     rw[if_neg (fun h=>by rw[K]at h;cases h)]at d
     clear K;go_wp2_with fail
     refine(q.out _ (ze (ze (ze (ze (zof w.heap.size w)))))).mono ?_;rintro e g ⟨rfl,rfl⟩;clear q;cases X:InC 1 48 y with
     |false=>
      rw[if_pos X]at d;clear k f X;go_wp2;go_ret;exact⟨by rw[d.out];rfl,(ze (ze (ze (ze (zof w.heap.size w)))))⟩
     |true=>
      rw[if_neg (fun h=>by rw[X]at h;cases h)]at d
      clear X;go_wp2_with fail
      refine(k.out _ (ze (ze (ze (ze (zof w.heap.size w)))))).mono ?_;rintro e g ⟨rfl,rfl⟩;clear k;cases R:InC 0 ((l.n:Int)-1) t.al with
      |false=>
       rw[if_pos R]at d;clear f R;go_wp2;go_ret;exact⟨by rw[d.out];rfl,(ze (ze (ze (ze (zof w.heap.size w)))))⟩
      |true=>
       rw[if_neg (fun h=>by rw[R]at h;cases h)]at d
       have f:=hid (f.out R);clear R;go_wp2_with fail
       refine(f.out _ (ze (ze (ze (ze (zof w.heap.size w)))))).mono ?_;rintro e g ⟨wa,wc,m,S,rfl,_,H,u,A,-⟩;have I:=hid (zh (ze (ze (ze (ze (zof w.heap.size w))))) A);have F:=hid H;have V:=hid u;have x4:g.cell? ⟨w.heap.size,4,none⟩=some (.int .i64 t.dflt):=za (zmu w _ _ _ _ _ 4 _ rfl) A;have x5:g.cell? ⟨w.heap.size,5,none⟩=some (.slice t.args.a t.args.n t.args.c):=za (zmu w _ _ _ _ _ 5 _ rfl) A;have a4:w.heap.size<g.heap.size:=zog g _ x4;have Z:m.n<=100000:=by
        have h1:=congrArg List.length V.out;simp only[zoE,ze0,F.out.1,a0.out]at h1;omega
       have U:Hid (∀o,(g.alloc o).cell? ⟨g.heap.size,2,none⟩=some (.slice m.a m.n m.c)->Calls Tryz.prog 140 #[.pointer (some ⟨g.heap.size,0,none⟩),.agg #[.int .i64 t.dflt,.slice t.args.a t.args.n t.args.c]] (g.alloc o) (zg5 S t.dflt t.zs (g.alloc o))):=fun o h2=>
        zks g.heap.size m S t.dflt t.args.a t.args.n t.args.c t.zs (g.alloc o) Z a1 h2 (F.out.step SayD.keeps (ze (zof _ _))) ((HZ.out.step I.out).step (ze (zof _ _)))
       clear f A H u;go_wp2_with fail
       refine(U.out _ ((zod _ _ _ _ rfl).trans rfl)).mono ?_;rintro e w2 ⟨C,rfl,K,T⟩;have HC:=hid (zlI V.out K);have HE:=hid (zh (ze I.out) T);clear U K T I;go_wp2;go_ret;exact⟨by rw[d.out,<-HC.out];rfl,HE.out⟩
structure PlanD.small (d : PlanD) : Prop where
 an : d.acts.n <= 10000
 aw : ∀ x ∈ d.al, x.w.n <= 10000
 ts : ∀ t ∈ d.ts, t.keys.n <= 10000 /\ t.acts.n <= 10000 /\ t.args.n <= 10000
 on : d.out.n <= 10000
def zcR(p:PPlan)(t:PTab):Int:=if 3<t.ks.length then 2 else if(0:Int)∈t.ks.map (fun r=>p.width r [])then 1 else zJ t (t.ks.map (fun r=>p.width r [])) p.al
theorem ze7{d:PlanD}{w:World}(a:d.lie w)(ks:List RefD):yw d ks=ks.map (fun r=>d.p.width r []):=by
 unfold yw;apply List.map_congr_left
 intro r _;unfold zdb;exact qD a r []
theorem ziq(d:PlanD)(w:World)(J:d.lie w)(hs:d.small)(k:Nat)(hk:k<d.tabs.n)(x:TabD)(Q:d.ts[k]?=some x):
 Calls Tryz.prog 49 #[d.v,.int .i64 k] w fun e w'=>e=.returned (.int .i64 (zcR d.p x.p))/\Below w.heap.size w w':=by
 have i:∀o,Below w.heap.size w (w.alloc o):=fun o=>ze (zof _ _)
 have F:∀o S,Below w.heap.size w ((w.alloc o).alloc S):=fun o S=>ze (ze (zof _ _))
 obtain⟨g,off,x',V,D,⟨c0,_⟩,⟨c1,_⟩,⟨c2,_⟩,⟨c3,A⟩,⟨c4,_⟩,⟨c5,_⟩,t,has,I⟩:=zu J.ts hk;obtain rfl:x=x':=by rw[Q]at D;exact zoq D
 obtain⟨T,R,b3⟩:=hs.ts x (zol Q);have m:Hid (∀w',Below w.heap.size w w'->Calls Tryz.prog 95 #[d.v,x.v] w' (xt w' (x.ks.map (fun r=>d.p.width r [])))):=fun w' h=>by
  rw[<-ze7 J];exact zgd d x w' (J.step h) (t.step RefD.keeps h) T
 generalize N:x.ks.map (fun r=>d.p.width r [])=L at*
 have O:L.length=x.keys.n:=by rw[<-N,zoE,t.1]
 have l:Hid (∀w' a c,Has .i64 w' a L.length L->Calls Tryz.prog 96 #[.slice a L.length c,.int .i64 0] w' fun e E=>e=.returned (.bool (decide ((0:Int)∈L)))/\E=w'):=fun w' a c h=>zbm a _ c L 0 w' (by omega) h
 have j:Hid (∀w' a c,Below w.heap.size w w'->(a=none->L.length=0/\c=0)->Has .i64 w' a L.length L->Calls Tryz.prog 97 #[x.v',.slice a L.length c,.slice d.acts.a d.acts.n d.acts.c] w' fun e E=>e=.returned (.int .i64 (zJ x.p L d.p.al))/\Below w'.heap.size w' E):=fun w' a c h hn K=>
  zeN x ⟨a,L.length,c⟩ L d.acts d.al w' K hn (by show L.length<=100000;omega) A (has.step h) R (I.step h) (by omega) (J.al.step ActD.keeps h) (by have:=hs.an;omega) (fun y hy=>by have:=hs.aw y hy;omega)
 have b:Hid (zcR d.p x.p=if 3<x.keys.n then 2 else if(0:Int)∈L then 1 else zJ x.p L d.p.al):=by
  show zcR d.p x.p=_;unfold zcR;rw[show x.p.ks.length=x.keys.n from t.1,<-N]
  rfl
 have Y:(k:Int)<(d.tabs.n:Int):=by omega
 have k0:∀o,(w.alloc o).cell? ⟨g,off+k*6,none⟩=some (.int .i64 x.kind):=fun o=>za c0 (i o)
 have k1:∀o,(w.alloc o).cell? ⟨g,off+k*6+1,none⟩=some (.slice x.keys.a x.keys.n x.keys.c):=fun o=>za c1 (i o)
 have W:∀o,(w.alloc o).cell? ⟨g,off+k*6+2,none⟩=some (.slice x.acts.a x.acts.n x.acts.c):=fun o=>za c2 (i o)
 have k3:∀o,(w.alloc o).cell? ⟨g,off+k*6+3,none⟩=some (.int .i64 x.cap):=fun o=>za c3 (i o)
 have k4:∀o,(w.alloc o).cell? ⟨g,off+k*6+4,none⟩=some (.int .i64 x.dflt):=fun o=>za c4 (i o)
 have U:∀o,(w.alloc o).cell? ⟨g,off+k*6+5,none⟩=some (.slice x.args.a x.args.n x.args.c):=fun o=>za c5 (i o)
 unfold PlanD.v at m;rw[V]at m;clear J hs Q D c0 c1 c2 c3 c4 c5 t has I i T R b3 N O A;by_cases M:(3:Int)<(x.keys.n:Int)
 ·have Z:=zoY M;rw[if_pos (by omega)]at b
  clear m l j M;go_enter Tryz.func49,Tryz.ntmps49
  go_wp2;go_ret;exact⟨by rw[b.out];rfl,F _ _⟩
 have Z:=zoX M;rw[if_neg (by omega)]at b
 clear M;have C:=hid F;clear F;go_enter Tryz.func49,Tryz.ntmps49
 go_wp2_with fail
 refine(m.out _ (C.out _ _)).mono ?_;rintro e s ⟨a,c,rfl,u,K,f⟩;have q:=hid (zh (C.out _ _) f);have P:=hid K;have B:=hid u;have y3:s.cell? ⟨w.heap.size,3,none⟩=some (.slice d.acts.a d.acts.n d.acts.c):=za ((zoe _ _ _ (by simp)).trans ((zod _ _ _ _ rfl).trans rfl)) f
 have z0:s.cell? ⟨w.heap.size+1,0,none⟩=some (.int .i64 x.kind):=za ((zod _ _ _ _ (by simp)).trans rfl) f
 have z1:s.cell? ⟨w.heap.size+1,1,none⟩=some (.slice x.keys.a x.keys.n x.keys.c):=za ((zod _ _ _ _ (by simp)).trans rfl) f
 have z2:s.cell? ⟨w.heap.size+1,2,none⟩=some (.slice x.acts.a x.acts.n x.acts.c):=za ((zod _ _ _ _ (by simp)).trans rfl) f
 have z3:s.cell? ⟨w.heap.size+1,3,none⟩=some (.int .i64 x.cap):=za ((zod _ _ _ _ (by simp)).trans rfl) f
 have z4:s.cell? ⟨w.heap.size+1,4,none⟩=some (.int .i64 x.dflt):=za ((zod _ _ _ _ (by simp)).trans rfl) f
 have z5:s.cell? ⟨w.heap.size+1,5,none⟩=some (.slice x.args.a x.args.n x.args.c):=za ((zod _ _ _ _ (by simp)).trans rfl) f
 have l:=hid (l.out s a c P.out);have j:=hid (j.out s a c q.out B.out P.out);clear m K f u C k0 k1 W k3 k4 U B P;go_wp2_with fail
 refine l.out.mono ?_;rintro e w2 ⟨rfl,rfl⟩;clear l;by_cases G:(0:Int)∈L
 ·rw[if_pos G]at b;rw[zoY G];clear j G;go_wp2;go_ret;exact⟨by rw[b.out];rfl,q.out⟩
 ·rw[if_neg G]at b;rw[zoX G];clear G;go_wp2_with fail
  refine j.out.mono ?_;rintro e w3 ⟨rfl,H⟩;have X:=hid (zh q.out H);clear j H q;go_wp2;go_ret;exact⟨by rw[b.out];rfl,X.out⟩
end Go.Proofs.YtbmcgbmegcpgnaaGreat
