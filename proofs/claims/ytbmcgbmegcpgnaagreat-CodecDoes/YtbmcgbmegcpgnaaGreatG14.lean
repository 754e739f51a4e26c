import Derived.Test.YtbmcgbmegcpgnaaGreatG10
import Derived.Test.YtbmcgbmegcpgnaaGreatG11
import Derived.Test.YtbmcgbmegcpgnaaGreatG13
import Derived.Test.YtbmcgbmegcpgnaaGreatVQPure
import Derived.Defers
import Derived.Recover
import Derived.Test.YtbmcgbmegcpgnaaGreatVQR4
import Derived.Test.YtbmcgbmegcpgnaaGreatG6
set_option maxHeartbeats 8000000
set_option maxRecDepth 20000
set_option linter.unusedSimpArgs false
namespace Go.Proofs.YtbmcgbmegcpgnaaGreat
open Go.RowKit
theorem zuw{zs:List Int}{s s1:Except (Int × Int) Nat}{U:Nat}(h:Sim s (zpf zs) s1 fun t=>.ok (U,t)):Sim s (ke zs) s1 fun t=>.ok (zpj U,t):=
 ⟨fun t d=>by obtain⟨c,b,a⟩:=h.ok t d;exact⟨c,b,by unfold ke;rw[a]⟩,fun e f=>(h.er e f).imp id fun⟨c,b,a⟩=>⟨c,b,by unfold ke;rw[a]⟩⟩
def NV(X:Int)(v:Value)(_:World):Prop:=v=.int .i64 X/\wfI X
def CV(n X:Nat)(v:Value)(_:World):Prop:=v=.int .i64 (X:Int)/\X<=n
theorem zpk{p:Nat}{a:Option Addr}{c:Nat}{zs:List Int}{s:Except (Int × Int) Nat}{w:World}(h:Tk p a c zs s w):
 Calls Tryz.prog 124 #[.pointer (some ⟨p,0,none⟩)] w (TD p a c zs s (ke zs) NV w):=by
 have j:=hid (zq6 h);clear h;go_enter Tryz.func124,Tryz.ntmps124
 go_wp2_with fail
 refine j.out.mono ?_;rintro e t ⟨_,U,s1,rfl,⟨rfl,f⟩,k,i,hs⟩;have HD:Hid (∀v,v=.int .i64 (zpj U)->TD p a c zs s (ke zs) NV w (.returned v) t):=fun v r=>⟨v,zpj U,s1,rfl,⟨r,zrx f⟩,k,i,zuw hs⟩
 clear j k i hs;obtain⟨q,hq⟩:∃q,q=U/2:=⟨_,rfl⟩;have u:(U:Int).tdiv 2=(q:Int):=by rw[Int.tdiv_eq_ediv_of_nonneg (by omega)];omega
 have x:(U:Int)/2=(q:Int):=by omega
 have m:IntKind.u64.wrap (q:Int)=(q:Int):=by rw[IntKind.wrap_u64];omega
 have hw:wrap64 (q:Int)=(q:Int):=by unfold wrap64;omega
 by_cases d:U%2=1
 ·have b:zpj U= -(q:Int)-1:=by unfold zpj;rw[if_pos d,hq]
  have o:(U:Int).tmod 2=1:=by rw[Int.tmod_eq_emod_of_nonneg (by omega)];omega
  have l:(U:Int)%2=1:=by omega
  have n:wrap64 (-(q:Int))= -(q:Int):=by unfold wrap64;omega
  have g:wrap64 (-(q:Int)-1)= -(q:Int)-1:=by unfold wrap64;omega
  rw[b]at HD;clear hq d b f;go_wp2;go_ret;exact HD.out _ (zhs g)
 ·have b:zpj U=(q:Int):=by unfold zpj;rw[if_neg d,hq]
  have o:(U:Int).tmod 2=0:=by rw[Int.tmod_eq_emod_of_nonneg (by omega)];omega
  have l:(U:Int)%2=0:=by omega
  rw[b]at HD;clear hq d b f;go_wp2;go_ret;exact HD.out _ (zhs hw)
theorem ztT{zs:List Int}{s s1:Except (Int × Int) Nat}{X:Int}{e:Int × Int}(h:Sim s (ke zs) s1 fun t=>.ok (X,t))(a:s1=.error e)(Y:Nat):Sim s (zpl zs) s1 fun t=>.ok (Y,t):=by
 subst a;exact⟨(fun t b=>by cases b),fun e a=>(h.er e a).imp id fun⟨f,d,c⟩=>⟨f,d,by unfold zpl;rw[c]⟩⟩
theorem ztU{zs:List Int}{s:Except (Int × Int) Nat}{X:Int}{c t:Nat}(h:Sim s (ke zs) (.ok t) fun t=>.ok (X,t))(hs:∀u,s=.ok u->u=c)(hb:X<0\/(zs.length:Int)-(t:Int)<X)(Y:Nat):Sim s (zpl zs) (.error (2,(c:Int))) fun t=>.ok (Y,t):=by
 obtain⟨a,b,f⟩:=h.ok t rfl;obtain rfl:=hs a b;exact⟨(fun t d=>by cases d),fun e g=>.inr ⟨a,b,by unfold zpl;rw[f];dsimp only;rw[if_pos hb,<-Except.error.inj g]⟩⟩
theorem ztV{zs:List Int}{s:Except (Int × Int) Nat}{X:Nat}{t:Nat}(h:Sim s (ke zs) (.ok t) fun t=>.ok ((X:Int),t))(hb:¬(zs.length:Int)-(t:Int)<(X:Int)):Sim s (zpl zs) (.ok t) fun t=>.ok (X,t):=by
 obtain⟨d,f,b⟩:=h.ok t rfl;exact⟨fun g a=>by cases a;exact⟨d,f,by unfold zpl;rw[b];dsimp only;rw[if_neg (by omega),zov]⟩,fun e c=>by cases c⟩
theorem zp1{p:Nat}{a:Option Addr}{c:Nat}{zs:List Int}{s:Except (Int × Int) Nat}{w:World}(h:Tk p a c zs s w):
 Calls Tryz.prog 75 #[.pointer (some ⟨p,0,none⟩)] w (TD p a c zs s (zpl zs) (CV zs.length) w):=by
 have S:=hid (zpk h);obtain⟨F,c1,-,V⟩:=h.c1;have f:=h.lt;have H0:=hid V;clear h V;go_enter Tryz.func75,Tryz.ntmps75
 go_wp2_with fail
 refine S.out.mono ?_;rintro e j ⟨_,X,s1,rfl,⟨rfl,R⟩,U,O,hs⟩;clear S c1 f;have g:=hid O;have r:=hid U;have q:=hid hs;have J:=hid R;clear O U hs R;cases s1 with
 |error e=>
  have i:=hid (fun n=>tok (zpO g.out n))
  have hb:okE (.error e:Except (Int × Int) Nat)=false:=rfl;rw[hb]at i;have k:Hid (∀n m,TD p a c zs s (zpl zs) (CV zs.length) w (.returned (.int .i64 0)) ((j.drewN n).drewN m)):=fun n m=>⟨_,0,_,rfl,⟨rfl,zon _⟩,zqc (zqc r.out n) m,zpO (zpO g.out n) m,ztT q.out rfl 0⟩
  clear hb;go_wp2;go_quiet ((go_at_call 33;exact Calls.quiet_of_same (i.out _)))
  have o:=hid (i.out nq);have b:=hid (k.out nq 0);clear i k g r q H0 J;change Hid (TD p a c zs s (zpl zs) (CV zs.length) w (.returned (.int .i64 0)) (j.drewN nq))at b
  generalize j.drewN nq=w2 at*;go_wp2_with fail
  refine o.out.mono ?_;rintro e E ⟨rfl,rfl⟩;go_wp2;go_ret;exact b.out
 |ok t=>
  have i:=hid (fun n=>tok (zpO g.out n))
  have hb:okE (.ok t:Except (Int × Int) Nat)=true:=rfl;rw[hb]at i;clear hb;obtain⟨P,Z⟩:=g.out.at;have Q:=g.out.c0;have T:=g.out.few;have f:=g.out.lt;obtain⟨m,hm⟩:∃m:Nat,m=zs.length-t:=⟨_,rfl⟩;have W:IntKind.i64.wrap ((zs.length:Int)-(t:Int))=(m:Int):=by rw[zX _ (by omega) (by omega)];omega
  by_cases d:X<0\/(zs.length:Int)-(t:Int)<X
  ·have C:=hid (ztU q.out H0.out d 0);have M:=hid (fun n=>zsd (x:=2) (y:=(F:Int)) (zpO g.out n) (by decide))
   have l:=hid (fun(w:World) (h:Tk p a c zs (.error (2,(F:Int))) w)=>tok h)
   have hb:okE (.error (2,(F:Int)):Except (Int × Int) Nat)=false:=rfl;rw[hb]at l;have k:Hid (∀n w',Rn p (j.drewN n) w'->Tk p a c zs (.error (2,(F:Int))) w'->TD p a c zs s (zpl zs) (CV zs.length) w (.returned (.int .i64 0)) w'):=fun n w' G K=>⟨_,0,_,rfl,⟨rfl,zon _⟩,(zqc r.out n).trans G,K,C.out⟩
   clear hb C q H0 J r;have hX:X<0\/(¬X<0/\(m:Int)<X):=by omega
   clear d hm;rcases hX with G|⟨G,K⟩
   all_goals
    go_wp2;go_quiet ((go_at_call 33;exact Calls.quiet_of_same (i.out _)))
    have B:=hid (M.out nq);have b:=hid (k.out nq);clear i k g M Q P;have A:p<(j.drewN nq).heap.size:=f;generalize j.drewN nq=w2 at*;clear f;go_wp2_with fail
    refine B.out.mono ?_;rintro e E ⟨rfl,N,I⟩;have L:=hid (l.out E I);have H:=hid (b.out E N I);clear N I B b l;go_wp2_with fail
    refine L.out.mono ?_;rintro e w4 ⟨rfl,rfl⟩;go_wp2;go_ret;exact H.out
  ·obtain⟨Y,rfl⟩:=Int.eq_ofNat_of_zero_le (show 0<=X by omega)
   have D:=hid (ztV q.out (fun h=>d (.inr h)))
   have u:Y<=zs.length:=by omega
   have k:Hid (∀n,TD p a c zs s (zpl zs) (CV zs.length) w (.returned (.int .i64 (Y:Int))) (j.drewN n)):=fun n=>⟨_,Y,_,rfl,⟨rfl,u⟩,zqc r.out n,zpO g.out n,D.out⟩
   have G:¬(Y:Int)<0:=by omega
   have K:¬(m:Int)<(Y:Int):=by omega
   clear D q H0 J r d hm u;go_wp2;go_quiet ((go_at_call 33;exact Calls.quiet_of_same (i.out _)))
   have o:=hid (i.out nq);have b:=hid (k.out nq);clear i k g Q P;have A:p<(j.drewN nq).heap.size:=f;generalize j.drewN nq=w2 at*;clear f;go_wp2_with fail
   refine o.out.mono ?_;rintro e E ⟨rfl,rfl⟩;go_wp2;go_ret;exact b.out
theorem kt{α β :Type}{r:Except (Int × Int) (α × Nat)}{f: α->Nat->Except (Int × Int) (β × Nat)}{y: β × Nat}(h:y7 r f=.ok y):∃x t,r=.ok (x,t)/\f x t=.ok y:=by
 unfold y7 at h;cases r with
 |error e=>cases h
 |ok z=>exact⟨z.1,z.2,rfl,h⟩
@[reducible] def zqu(x:Int × Int):RefD:=⟨x.1,x.2⟩
@[reducible] def zpV(x:Int × Int × Int × Int):PushD:=⟨x.1,⟨x.2.1,x.2.2.1⟩,x.2.2.2⟩
@[reducible] def zqe(x:Int × Int × Int):CaseD:=⟨x.1,x.2.1,x.2.2⟩
@[reducible] def zqx(e:Option (List (Int × Int × Int × Int))):List PushD:=(e.getD []).map zpV
@[reducible] def zpS(x:DeedX):POp:=⟨x.kind,⟨x.h,x.f⟩,x.head,zqx x.e⟩
@[reducible] def zqW(x:ActX):PAct:=⟨x.w,x.ops.map zpS⟩
@[reducible] def zqL(x:TabX):PTab:=⟨x.kind,x.keys.map zqu,x.acts,x.cap,x.dflt,x.args⟩
@[reducible] def zp3(x:NodeX):PNode:=⟨x.kind,x.n,zqx x.e,x.yes,x.no⟩
@[reducible] def zpL(x:StateX):PState:=⟨x.head,zqu x.on,x.cs.map zqe,x.els⟩
@[reducible] def zp0(x:PlanX):PPlan:=⟨x.heads,x.mt,x.states.map zpL,x.acts.map zqW,x.tabs.map zqL,x.nodes.map zp3,x.out⟩
def zvc(x:POp):List Int:=zk x.kind++(if x.kind=1 then zoZ x.r++zpc x.es else if x.kind=2 then zk x.head else if x.kind=3 then zk x.head else if x.kind=5 then zpc x.es else if x.kind=6 then zoZ x.r++zk x.head else[])
def ztd(x:PAct):List Int:=xr x.ws++(zk (x.os.length:Int)++x.os.flatMap zvc)
def zte(x:PTab):List Int:=zk x.kind++((zk (x.ks.length:Int)++x.ks.flatMap zoZ)++(xr x.al++((zk x.cap++zk x.dflt)++zqa x.zs)))
def ztf(x:PNode):List Int:=(zk x.kind++zk x.yes)++(if x.kind=3 then zpc x.es++zk x.no else if x.kind=4 then zk x.n++zk x.no else zk x.n)
def zrC(x:PState):List Int:=(zk x.head++zk (x.cs.length:Int))++((if x.cs.length=0 then[]else zoZ x.r)++(x.cs.flatMap zpe++zk x.els))
def ztg(x:PPlan):List Int:=(zk (x.hs.length:Int)++x.hs.flatMap xr)++(xr x.ms++((zk (x.ss.length:Int)++x.ss.flatMap zrC)++((zk (x.al.length:Int)++x.al.flatMap ztd)++((zk (x.ts.length:Int)++x.ts.flatMap zte)++((zk (x.ns.length:Int)++x.ns.flatMap ztf)++(xr x.os))))))
theorem zsH{α β :Type}(g: α->β)(enc: β->List Int)(l:List α):(l.map g).flatMap enc=l.flatMap (fun x=>enc (g x)):=List.flatMap_map ..
theorem PlanV.keep{w a w2:World}{x:PlanX}{v:Value}(h:PlanV w x a v)(hb:∀g,w.heap.size<=g->w2.heap[g]?=a.heap[g]?\/a.heap.size<=g):PlanV w x w2 v:=by
 obtain⟨v1,v2,v3,v4,v5,v6,c,e,d,f,b,k,i,l,j⟩:=h;exact⟨v1,v2,v3,v4,v5,v6,c,e,d.keep hb,f.keep hb,b.keep hb,k.keep hb,i.keep hb,l.keep hb,j.keep hb⟩
theorem PlanV.low{w w0 a:World}{x:PlanX}{v:Value}(h:PlanV w x a v)(hb:w0.heap.size<=w.heap.size):PlanV w0 x a v:=by
 obtain⟨v1,v2,v3,v4,v5,v6,c,e,d,f,b,j,g,k,i⟩:=h;exact⟨v1,v2,v3,v4,v5,v6,c,e,d.low hb,f.low hb,b.low hb,j.low hb,g.low hb,k.low hb,i.low hb⟩
theorem zsl(p:Addr)(w:World):
 CallsD Tryz.prog 72 #[.pointer (some p)] .returning w fun e a w'=>e=.returned (.tuple #[])/\a=.returning/\w'=w:=by
 refine callsD_of_wpS Tryz.func72 rfl fun c cs b=>?_
 apply wpS_seq
 apply wpS_region
 simp[wpOpsS,go_sem,recoverD,b,Tryz.ntmps72,Exit.thenS];refine wpS_of_wp ?_;go_wp2;cases c
 simp_all [bodyPostS,results,Tryz.results72]
theorem zre(b:Nat)(a c:Int)(w:World)(x y:Int)(h:w.cell? ⟨b,0,none⟩=some (.int .i64 x))(i:w.cell? ⟨b,1,none⟩=some (.int .i64 y))(f:w.frozen? ⟨b,0,none⟩=false)(d:w.frozen? ⟨b,1,none⟩=false):
 CallsD Tryz.prog 72 #[.pointer (some ⟨b,0,none⟩)] (.panicking [{v:=zq9 a c,recovered:=false}]) w fun e k w'=>e=.returned (.tuple #[])/\k=.panicking [{v:=zq9 a c,recovered:=true}]/\w'=((w.setCell ⟨b,0,none⟩ (.int .i64 a)).setCell ⟨b,1,none⟩ (.int .i64 c)).alloc (.cells #[.int .i64 a,.int .i64 c] 129):=by
 have m:∀(W:World) (v:Value),(Instr.typeAssert (.iface 129 v) 20 129 true).run Tryz.prog W=.ok (.tuple #[v,.bool true]) W:=fun _ _=>by kernel_rfl
 have j:∀(W:World) (v:Value),(binOp BinOp.eql 20 (.iface 129 v) .nilIface).run Tryz.prog W=.ok (.bool false) W:=fun _ _=>by kernel_rfl
 have bl:∀o,Below w.heap.size w (w.alloc o):=fun o=>ze (zof _ _)
 have hb:b<w.heap.size:=zog _ _ h;have l:¬b=w.heap.size:=by omega
 have t:∀o,(w.alloc o).cell? ⟨b,0,none⟩=some (.int .i64 x):=fun o=>za h (bl o)
 have s:∀o,(w.alloc o).cell? ⟨b,1,none⟩=some (.int .i64 y):=fun o=>za i (bl o)
 have z0:∀o,(w.alloc o).frozen? ⟨b,0,none⟩=false:=fun o=>((bl o).frozen (p:=⟨b,0,none⟩) hb).trans f
 have z1:∀o,(w.alloc o).frozen? ⟨b,1,none⟩=false:=fun o=>((bl o).frozen (p:=⟨b,1,none⟩) hb).trans d
 have r:∀v o,((w.setCell ⟨b,0,none⟩ v).alloc o).cell? ⟨b,1,none⟩=some (.int .i64 y):=fun v o=>(zoe _ _ _ (by simp[World.setCell];omega)).trans ((zou _ _ _ _ (by simp)).trans i)
 have u:∀v o,((w.setCell ⟨b,0,none⟩ v).alloc o).frozen? ⟨b,1,none⟩=false:=fun v o=>(World.frozen?_alloc_past _ _ _ (by simp[World.setCell];omega)).trans ((World.frozen?_setCell _ _ _ _).trans d)
 refine callsD_of_wpS Tryz.func72 rfl fun n cs g=>?_
 apply wpS_seq
 apply wpS_region
 simp[wpOpsS,go_sem,recoverD,g,Tryz.ntmps72,Exit.thenS];refine wpS_of_wp ?_;unfold zq9;have q:=hid g;clear g h i f d bl;go_wp2;cases n
 simp[bodyPostS,results,Tryz.results72]
theorem zij(t:TabD)(C:QSl)(al:List ActD)(dflt:Int)(a:Option Addr)(n c:Nat)(zs:List Int)(w:World)(ht:Has .i64 w t.acts.a t.acts.n t.al)(a3:t.acts.n<=100000)(ha:QRow 2 ActD.lie w C al)(K:∀i∈t.al,0<=i/\i<(C.n:Int))(N:∀x∈al,∀y∈x.ws,1<=y/\y<=64)(E:∀x∈al,x.w.n<=100000)(hz:Has .u64 w a n zs):
 Calls Tryz.prog 69 #[t.v',.slice C.a C.n C.c,.agg #[.int .i64 dflt,.slice a n c]] w fun e w'=>e=.returned (.int .i64 (xM (al.map ActD.p) t.al dflt zs))/\Below w.heap.size w w':=by
 obtain⟨B,hW⟩:∃B,B=((w.alloc t.box').alloc (.cells #[.int .i64 dflt,.slice a n c] 126)):=⟨_,rfl⟩;obtain⟨b0,h0⟩:∃b0,b0=w.heap.size:=⟨_,rfl⟩;obtain⟨b1,S⟩:∃b1,b1=w.heap.size+1:=⟨_,rfl⟩;have y0:B.cell? ⟨b1,0,none⟩=some (.int .i64 dflt):=by rw[hW,S];exact(zod _ _ _ _ (by simp)).trans rfl
 have y1:B.cell? ⟨b1,1,none⟩=some (.slice a n c):=by rw[hW,S];exact(zod _ _ _ _ (by simp)).trans rfl
 have R:Hid (Below w.heap.size w B):=by rw[hW];exact ze (ze (zof _ _))
 have b:Hid (Calls Tryz.prog 26 #[.slice t.acts.a t.acts.n t.acts.c,.int .i64 dflt] B fun e O=>e=.returned (.bool (decide (dflt∈t.al)))/\O=B):=zd7 _ _ _ t.al dflt B a3 (ht.step R.out)
 have E3:=hid hW;have E0:=hid h0;have E1:=hid S;clear hW h0 S;by_cases I:dflt∈t.al
 ·obtain⟨g0,D⟩:=K dflt I;obtain⟨j,rfl⟩:∃j:Nat,dflt=j:=⟨dflt.toNat,by omega⟩
  obtain⟨ag,W,x,U,hx,⟨c0,_⟩,_,V,_⟩:=zu (ha.step ActD.keeps R.out) (show j<C.n by omega)
  have b3:(j:Int)<(C.n:Int):=by omega
  have G:=zol hx;have d:Hid (xM (al.map ActD.p) t.al j zs=zcQ zs x.ws):=by
   show xM (al.map ActD.p) t.al j zs=_;unfold xM;rw[if_pos I,zov,zoi,zoy,hx];rfl
  have a1:=hid (N x G);have b4:=E x G;have r:=hid V;have HZ:=hid (hz.step R.out);obtain⟨qa,eqa⟩:∃qa,C.a=qa:=⟨_,rfl⟩;rw[eqa];obtain rfl:qa=some ⟨ag,W,none⟩:=by rw[<-eqa];exact U
  obtain⟨wa,ewa⟩:∃wa,x.w.a=wa:=⟨_,rfl⟩;rw[ewa]at c0;have a7:=hid ewa;rw[zoY I]at b;clear ht ha K N E hz I g0 D hx G V U eqa ewa;go_enter Tryz.func69,Tryz.ntmps69
  go_wp2_with fail
  rw[<-E3.out,<-E1.out,<-E0.out];refine b.out.mono ?_;rintro e Q ⟨rfl,rfl⟩;clear b E3 E1 E0;by_cases hl:(x.w.n:Int)=(n:Int)
  ·have a4:((x.w.n:Int) !=(n:Int))=false:=by simpa using hl
   have T:Hid (zcQ zs x.ws=if jQ zs x.ws then 0 else 6):=by
    show zcQ zs x.ws=_;unfold zcQ;rw[if_neg (by have S:=HZ.out.1;have h2:=r.out.1;omega)]
   have Z:Hid (x.w.n=n):=by show x.w.n=n;omega
   have X:Hid (Below Q.heap.size Q Q):=zof _ _;clear hl;go_wp2;go_loopw [8] (fun q wr=>∃k:Nat,k<=x.w.n/\q=.int .i64 k/\Hid (jQ zs x.ws=jQ (zs.drop k) (x.ws.drop k))/\Hid (Below Q.heap.size Q wr)) (fun q _=>x.w.n-(intOf q).toNat)
   case atStart=>exact⟨0,zon _,rfl,rfl,X⟩
   case round=>
    obtain⟨k,hk,rfl,g,f⟩:=hrel;clear X;have BW:=hid (zh R.out f.out);have y1:=za y1 f.out;by_cases a6:k<x.w.n
    ·obtain⟨zg,a9,z,ez,J,r0⟩:=zg8 (HZ.out.step f.out) (show k<n by have:=Z.out;omega)
     obtain⟨pg,Y,y,ey,H,r1⟩:=xQ (r.out.step f.out) a6;obtain rfl:wa=some ⟨pg,Y,none⟩:=by rw[<-a7.out];exact ey
     have a2:(k:Int)<(x.w.n:Int):=by omega
     have b2:(k:Int)<(n:Int):=by have:=Z.out;omega
     have s:=ze5 J H;have A:=HZ.out.nums z (zol J);have u:=zeY A (a1.out y (zol H));have l:Hid (∀w',Calls Tryz.prog 66 #[.int .u64 z,.int .i64 y] w' fun e O=>e=.returned (.bool (decide (yI y<z)))/\O=w'):=fun w'=>zai z y w'
     rw[ez]at y1;have a0:=zm y1;have a8:=zm r0;have a5:=zm r1;clear J H ey A ez;generalize yI y=M at*;generalize ku z=L at*;by_cases D:M<z
     ·have P:Hid (xM (al.map ActD.p) t.al j zs=6):=by
       show _=_;rw[d.out,T.out,g.out,s,zoX (by have:=u.1 D;omega)]
       rfl
      rw[zoY D]at l;clear s g u D;go_wp2_with fail
      haveI inhB:∀w:World,Inhabited (zq w):=fun w=>⟨⟨w,zof _ _⟩⟩
      refine zi (by kernel_rfl) (by kernel_rfl) ?_
      repeat (go_big_quiet_step (first|(go_at_call 66;exact zt _ (l.out _))))
      refine wpQuiet_nil ?_;intro wq F;obtain⟨⟨_,o⟩,m⟩:=F;subst m;have HE:=hid (zh BW.out o);clear o l f BW;go_wp2;go_ret;exact⟨by rw[P.out];rfl,HE.out⟩
     ·have P:Hid (jQ zs x.ws=jQ (zs.drop (k+1)) (x.ws.drop (k+1))):=by
       show _=_;rw[g.out,s,zoY (by apply Classical.byContradiction;intro h;exact D (u.2 (by omega)))]
       rfl
      rw[zoX D]at l;clear s g u D;go_wp2_with fail
      haveI inhB:∀w:World,Inhabited (zq w):=fun w=>⟨⟨w,zof _ _⟩⟩
      refine zi (by kernel_rfl) (by kernel_rfl) ?_
      repeat (go_big_quiet_step (first|(go_at_call 66;exact zt _ (l.out _))))
      refine wpQuiet_nil ?_;intro wq F;obtain⟨⟨_,o⟩,m⟩:=F;subst m;have HE:=hid (zh f.out o);clear o l f BW r0 r1 a8 a5 a0;go_wp2;go_roundw
      case rel=>exact⟨k+1,by omega,by go_num,P,HE⟩
      case measure=>simp[intOf];omega
    ·have ek:k=x.w.n:=by omega
     have a2:¬(k:Int)<(x.w.n:Int):=by omega
     have P:Hid (xM (al.map ActD.p) t.al j zs=0):=by
      show _=_;have:jQ zs x.ws=true:=by
       rw[g.out,ek,<-r.out.1,zoP];cases zs.drop x.ws.length<;>rfl
      rw[d.out,T.out,this];rfl
     clear g ek;go_wp2;go_ret;exact⟨by rw[P.out];rfl,BW.out⟩
  ·have a4:((x.w.n:Int) !=(n:Int))=true:=by simpa using hl
   have P:Hid (xM (al.map ActD.p) t.al j zs=2):=by
    show _=_;rw[d.out];unfold zcQ;rw[if_pos (by have S:=HZ.out.1;have h2:=r.out.1;omega)]
   clear hl;go_wp2;go_ret;exact⟨by rw[P.out];rfl,R.out⟩
 ·have d:Hid (xM (al.map ActD.p) t.al dflt zs=5):=by show xM _ _ _ _=5;unfold xM;rw[if_neg I]
  rw[zoX I]at b;clear ht ha K N E hz I;go_enter Tryz.func69,Tryz.ntmps69
  go_wp2_with fail
  rw[<-E3.out,<-E1.out,<-E0.out];refine b.out.mono ?_;rintro e Q ⟨rfl,rfl⟩;clear b;go_wp2;go_ret;exact⟨by rw[d.out];rfl,R.out⟩
end Go.Proofs.YtbmcgbmegcpgnaaGreat
