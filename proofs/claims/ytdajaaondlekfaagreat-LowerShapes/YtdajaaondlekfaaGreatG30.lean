import Derived.Test.YtdajaaondlekfaaGreatG29
import Derived.Deep.CutRange
import Derived.Test.YtdajaaondlekfaaGreatG25
import Derived.Test.YtdajaaondlekfaaGreatG22
set_option maxHeartbeats 8000000
set_option maxRecDepth 20000
set_option linter.unusedSimpArgs false
namespace Go.Proofs.YtdajaaondlekfaaGreat
open Go.RowKit
theorem qP{p:PPlan}{C A c e:Int}(h:qL p C A)(d:qL p c e):C=c/\A=e:=by
 rcases h with⟨h0,rfl,rfl⟩|⟨h0,hf⟩
 ·rcases d with⟨_,rfl,rfl⟩|⟨b,_⟩
  ·exact⟨rfl,rfl⟩
  ·exact absurd b h0
 ·rcases d with⟨b,_⟩|⟨_,a⟩
  ·exact absurd h0 b
  ·exact zgy hf a
theorem zch{p:PPlan}{C A f d:Int}(h:qp p C A)(e:qp p f d):C=f/\A=d:=by
 rcases h with⟨b,h2⟩|⟨h0,b,h2⟩
 ·rcases e with⟨a,_⟩|⟨_,a,_⟩
  ·exact qP b a
  ·exact absurd (qP b a).1 h2
 ·rcases e with⟨a,c⟩|⟨_,_,c⟩
  ·exact absurd (qP a b).1 c
  ·exact zfD h2 c
def zjb(p:PPlan)(w:World)(e:Ending)(w':World):Prop:=∃C A:Int,e=.returned (.agg #[.int .i64 C,.int .i64 A])/\qp p C A/\Below w.heap.size w w'
theorem zci(d:PlanD)(w:World)(m:d.lie w)(hs:d.small):Calls Tryz.prog 18 #[d.v] w (zjb d.p w):=by
 obtain⟨i,hW⟩:∃i,i=((w.alloc (.cells #[.slice d.heads.a d.heads.n d.heads.c,.slice d.mta.a d.mta.n d.mta.c,.slice d.states.a d.states.n d.states.c,.slice d.acts.a d.acts.n d.acts.c,.slice d.tabs.a d.tabs.n d.tabs.c,.slice d.nodes.a d.nodes.n d.nodes.c,.slice d.out.a d.out.n d.out.c] 29)).alloc (.cells #[.int .i64 0,.int .i64 0] 34)):=⟨_,rfl⟩;obtain⟨s,es⟩:∃s,s=w.heap.size:=⟨_,rfl⟩;obtain⟨f,ef⟩:∃f,f=w.heap.size+1:=⟨_,rfl⟩;have g:Hid (WlkAt d w i s f):=by rw[hW,es,ef];exact zaS d w
 have j:Hid (Below w.heap.size w i):=by rw[hW];exact ze (ze (zof _ _))
 have h:=hid (zje d i (m.step j.out) hs);have r:=hid hW;have l:=hid es;have q:=hid ef;clear m hs hW es ef;go_enter Tryz.func18,Tryz.ntmps18
 go_wp2_with fail
 rw[<-r.out,<-q.out,<-l.out];refine h.out.mono ?_;rintro e k ⟨C,A,sa,sn,sc,rfl,hi,_,_,b⟩;clear h r l q;have f0:=za g.out.f0 b;have f1:=za g.out.f1 b;have x:=(b.frozen (p:=⟨f,0,none⟩) g.out.fl).trans (g.out.fz 0);have y:=(b.frozen (p:=⟨f,1,none⟩) g.out.fl).trans (g.out.fz 1);have t:f<k.heap.size:=zog _ _ f0;have u:Hid (∀o,zjb d.p w (.returned (.agg #[.int .i64 C,.int .i64 A])) (((k.setCell ⟨f,0,none⟩ (.int .i64 C)).setCell ⟨f,1,none⟩ (.int .i64 A)).alloc o)):=fun o=>⟨C,A,rfl,hi,ze (((zh j.out b).setCell (p:=⟨f,0,none⟩) g.out.wf _).setCell (p:=⟨f,1,none⟩) g.out.wf _)⟩
 clear b g j hi;go_wp2;exact bodyPost_ret (v:=.agg #[.int .i64 C,.int .i64 A]) (by simp[results,Tryz.results18,go_sem, *]) rfl (u.out _)
@[reducible] def CP:PPlan:=⟨[[8]],[],[⟨0,⟨0,0⟩,[],1000⟩],[⟨[],[⟨1,⟨0,0⟩,0,[⟨2,⟨0,0⟩,0⟩,⟨1,⟨0,0⟩,1⟩,⟨3,⟨0,0⟩,0⟩]⟩]⟩],[],[⟨2,0,[],1,0⟩],[0]⟩
structure zhn (d : PlanD) (x : HeadD) (s : StateD) (a : ActD) (e : QSl) (nd : NodeD) : Prop where
 hs : d.hs = [x]
 xw : x.ws = [8]
 ms : d.ms = []
 ss : d.ss = [s]
 s1 : s.head = ((0 : Nat) : Int)
 s2 : s.cs = []
 s3 : s.els = 1000
 al : d.al = [a]
 os : a.os = [⟨1, ⟨((0 : Nat) : Int), ((0 : Nat) : Int)⟩, 0, e, [⟨2, ⟨0, 0⟩, 0⟩, ⟨1, ⟨0, 0⟩, 1⟩, ⟨3, ⟨0, 0⟩, 0⟩]⟩]
 ts : d.ts = []
 ns : d.ns = [nd]
 n1 : nd.kind = 2
 n2 : nd.n = ((0 : Nat) : Int)
 n3 : nd.yes = 1
 out : d.os = [0]
theorem zgC{d:PlanD}(h:d.p=CP):∃x s a e nd,zhn d x s a e nd:=by
 simp only[PlanD.p,CP,PPlan.mk.injEq,List.map_eq_singleton_iff,List.map_eq_nil_iff]at h;obtain⟨⟨x,q,i⟩,h2,⟨s,k,c⟩,⟨a,m,f⟩,n,⟨nd,j,b⟩,h7⟩:=h;simp only[ActD.p,PAct.mk.injEq,List.map_eq_singleton_iff]at f;obtain⟨_,o,l,g⟩:=f;simp only[StateD.p,PState.mk.injEq]at c;simp only[NodeD.p,PNode.mk.injEq]at b;simp only[OpD.p,POp.mk.injEq]at g;obtain⟨kind,r,head,e,es⟩:=o;obtain⟨rfl,rfl,rfl,rfl⟩:=g;exact⟨x,s,a,e,nd,q,i,h2,k,c.1,c.2.2.1,c.2.2.2,m,l,n,j,b.1,b.2.1,b.2.2.2.1,h7⟩
theorem CP.chk:zD CP=(0,0):=by decide+kernel
theorem CP.ok:(zD CP).1=0:=by rw[CP.chk]
theorem CP.end_(h:(zD CP).1=0):APp CP h CP.ss.length=[⟨0,0,0,0,true⟩,⟨1,1,1,1,true⟩]:=by
 show Wk.AP (yj CP h) 1=_;kernel_rfl
theorem CP.walk:qL CP 0 0:=.inr ⟨CP.ok,.inr ⟨fun j a=>by
 rw[CP.end_ CP.ok];have:j=0:=by have:j<1:=a;omega
 subst this;decide+kernel,rfl,rfl⟩⟩
theorem CP.start(h:(zD CP).1=0):xo CP h=1:=by unfold xo;rw[CP.end_ h];rfl
theorem CP.flow:qp CP 0 0:=.inr ⟨CP.ok,CP.walk,.inr ⟨fun j a=>by
 rw[CP.start CP.ok];unfold jD;have:j=0:=by have:j<1:=a;omega
 subst this;decide+kernel,rfl,rfl⟩⟩
def zaB:List InsD:=[⟨9,7,0,0,3,1⟩,⟨6,0,7,1,0,0⟩,xI 5 0,qu 0 5 10,xI 5 255,qu 0 5 6,kx 0 0,xI 5 1,qu 7 5 3,xI 0 1,kx 0 1]
def cDo:List InsD:=[jB 0 0,xI 1 1,qu 0 1 3,xI 5 255,qu 0 5 6,kx 0 0]
def zfK:List InsD:=[xI 6 0,jB 0 0,xI 5 8,qu 6 5 9,qu 6 0 7,⟨2,0,6,0,0,0⟩,xI 5 0,qu 0 5 10,⟨14,0,0,1,0,0⟩]
def zd0:List InsD:=[xI 0 0,kx 0 0,kx 0 1,kx 0 2,kx 0 3,kx 0 4,kx 0 5,kx 0 6,kx 0 7,kx 0 8,xI 7 0]
def cAll:List InsD:=(((zd0++(zaB++[xB 1]))++(cDo++[xB 2]))++(jB 0 1::([xI 5 0,⟨11,0,5,0,4,0⟩]++zfK))++[⟨15,7,0,0,0,0⟩,jB 0 2,⟨16,0,0,0,0,0⟩])++[⟨17,0,0,0,0,0⟩]
def zbB:List Int:=[11,23,30,45,42]
structure zfL (M : MkrD) (x : HeadD) (a : ActD) (e : QSl) : Prop where
 p : M.d.p = CP
 hs : M.d.hs = [x]
 xw : x.ws = [8]
 xn : x.w.n = 1
 os : M.d.os = [0]
 aos : a.os = [⟨1, ⟨((0 : Nat) : Int), ((0 : Nat) : Int)⟩, 0, e, [⟨2, ⟨0, 0⟩, 0⟩, ⟨1, ⟨0, 0⟩, 1⟩, ⟨3, ⟨0, 0⟩, 0⟩]⟩]
 slot : zY M.L ⟨0, 0⟩ = 0
 tl : M.L.tl = [1]
 port : M.L.port = 2
 sl : M.sl = [0]
 nl : M.nl = [1, 2]
 nw : M.nw = 3
@[reducible] def cD(M:MkrD)(o:OpD):List InsD:=qV M.L o.es++qW M.d.p M.L o.r
@[reducible] def cF(M:MkrD)(x:HeadD)(st:AS)(i:Nat):AS:=(st.1++(zaD M.d.p M.L M.nw 0 x.ws x.w.n++[xB (zab M 1000)]),jm st.2 (M.sl.getD i 0) st.1.length)
@[reducible] def cG(M:MkrD)(a:ActD)(st:AS)(i:Nat):AS:=(st.1++(doI (cD M) a.os++[xB (M.nl.getD 1 0)]),jm st.2 (M.nl.getD i 0) st.1.length)
theorem zjA{M:MkrD}{x:HeadD}{a:ActD}{e:QSl}(h:zfL M x a e):zaD M.d.p M.L M.nw 0 x.ws x.w.n=zaB:=by
 rw[h.p,h.xw,h.xn,h.nw];have hs:zY M.L ⟨((0:Nat):Int),((0:Nat):Int)⟩=0:=h.slot;simp only[zaD,xH,jl,qW,h.tl,hs];rfl
theorem zmT{M:MkrD}{x:HeadD}{a:ActD}{e:QSl}(h:zfL M x a e):doI (cD M) a.os=cDo:=by
 rw[h.aos];have hs:zY M.L ⟨((0:Nat):Int),((0:Nat):Int)⟩=0:=h.slot;have hr:kw M.L 0 ⟨0,0⟩=[jB 0 0]:=by unfold kw;rw[if_neg (by decide),h.slot]
 have b:qV M.L [⟨2,⟨0,0⟩,0⟩,⟨1,⟨0,0⟩,1⟩,⟨3,⟨0,0⟩,0⟩]=[jB 0 0,xI 1 1,qu 0 1 3]:=by
  show(([]++kw M.L (0-0) ⟨0,0⟩)++[xI (0-0+1-0) 1])++[qu (0-0+1-0+1-2) (0-0+1-0+1-2+1) 3]=_;have:kw M.L (0-0) ⟨0,0⟩=[jB 0 0]:=hr;rw[this];rfl
 show(qV M.L [⟨2,⟨0,0⟩,0⟩,⟨1,⟨0,0⟩,1⟩,⟨3,⟨0,0⟩,0⟩]++qW M.d.p M.L ⟨((0:Nat):Int),((0:Nat):Int)⟩)++[]=_;rw[b];unfold qW;rw[hs,h.p];rfl
theorem zhR{M:MkrD}{x:HeadD}{a:ActD}{e:QSl}(h:zfL M x a e):kO M.L 0 x.ws x.w.n=zfK:=by
 rw[h.xw,h.xn];have hr:kw M.L 0 ⟨((0:Nat):Int),((0:Nat):Int)⟩=[jB 0 0]:=by unfold kw;rw[if_neg (by decide)];rw[show zY M.L ⟨((0:Nat):Int),((0:Nat):Int)⟩=0 from h.slot]
 simp only[kO,xH,kX,hr];rfl
theorem zmj{M:MkrD}{x:HeadD}{a:ActD}{e:QSl}(h:zfL M x a e):yM (cF M x) (jZ 9 (List.replicate 4 (-1))) 1=(zd0++(zaB++[xB 1]),[11,-1,-1,-1]):=by
 have hw:zab M 1000=1:=by unfold zab;rw[if_pos rfl,h.nl];rfl
 show cF M x (jZ 9 (List.replicate 4 (-1))) 0=_;dsimp only[cF];rw[zjA h,hw,h.sl];rfl
theorem zns{M:MkrD}{x:HeadD}{a:ActD}{e:QSl}(h:zfL M x a e):yM (cG M a) (zd0++(zaB++[xB 1]),[11,-1,-1,-1]) 1=((zd0++(zaB++[xB 1]))++(cDo++[xB 2]),[11,23,-1,-1]):=by
 show cG M a (zd0++(zaB++[xB 1]),[11,-1,-1,-1]) 0=_;dsimp only[cG];rw[zmT h,h.nl];rfl
theorem zlt{M:MkrD}{x:HeadD}{a:ActD}{e:QSl}(h:zfL M x a e):zfO M (kh M ((zd0++(zaB++[xB 1]))++(cDo++[xB 2]),jm [11,23,-1,-1] (M.nl.getD 1 0) ((zd0++(zaB++[xB 1]))++(cDo++[xB 2])).length) M.d.os.length)=(cAll,zbB):=by
 have c:M.d.hs.getD (0:Int).toNat HeadD.z=x:=by rw[h.hs];rfl
 rw[h.os];show zfO M (kh M _ 1)=_;have b:∀st,kh M st 1=zfN M st 0:=fun st=>by unfold kh;rw[h.os];rfl
 rw[b];unfold zfN zfO;rw[c];have hw:kO M.L (0:Int).toNat x.ws x.w.n=zfK:=zhR h;rw[hw,h.tl,h.nl,h.nw,h.port];rfl
theorem zbb:kU zbB 9 [] cAll=(0,0):=by decide+kernel
def cProg:List InsD:=kL zbB cAll 0
theorem zlu:cAll.length=46:=rfl
theorem qZ{q:ProgD}{w:World}(d:q.lie w)(y:q.ts=[]){b:Nat}{l:Array Value}{T:TypeId}{f:Nat × Nat}(hb:w.heap[b]?=some (.cells l T f))(s:l.size<=5)(i:Nat)(v:Value):q.lie (w.setCell ⟨b,i,none⟩ v):=by
 refine⟨d.ws,d.n1,d.n2,⟨d.t.1,fun j x m=>by rw[y]at m;simp at m⟩,⟨d.c.1,fun j x m=>?_⟩⟩
 obtain⟨g,off,e,a⟩:=d.c.2 j x m;have r:g≠b:=by
  intro A;have n:=a.2.2.2.2.2.1;rw[A,zj hb]at n;have:=(zoj.1 n).1;omega
 have k:∀o u,w.cell? ⟨g,o,none⟩=some u->(w.setCell ⟨b,i,none⟩ v).cell? ⟨g,o,none⟩=some u:=fun o u h=>by
  have:=zop w ⟨b,i,none⟩ v g (by exact r)
  simp only[World.cell?,this];exact h
 exact⟨g,off,e,⟨k _ _ a.1.1,a.1.2⟩,⟨k _ _ a.2.1.1,a.2.1.2⟩,⟨k _ _ a.2.2.1.1,a.2.2.1.2⟩,⟨k _ _ a.2.2.2.1.1,a.2.2.2.1.2⟩,⟨k _ _ a.2.2.2.2.1.1,a.2.2.2.2.1.2⟩,⟨k _ _ a.2.2.2.2.2.1,a.2.2.2.2.2.2⟩⟩
theorem zlC{f:World}{B pa:Nat}{cs:List InsD}{ms:List Int}{w:World}(h:St f B pa cs ms w)(b:cs.length<=60000)(slots:Int)(hs:yt slots){s:QSl}{ts:List ShapeD}(hr:QRow 3 ShapeD.lie w s ts)(g:s.nil0)(e:s.n<=300):Calls Tryz.prog 24 #[.pointer (some ⟨pa,0,none⟩),.int .i64 slots,.slice s.a s.n s.c] w (zaG ms slots ts cs w):=by
 obtain⟨d,h,rfl,rfl,rfl⟩:=h;exact znf h.lab b slots hs hr g e
def zmU(w:World)(e:Ending)(w':World):Prop:=∃q:ProgD,e=.returned (.tuple #[q.v,.agg #[.int .i64 0,.int .i64 0]])/\q.slots=9/\q.ts=[]/\q.cs=cProg/\q.lie w'/\q.small/\Below w.heap.size w w'
theorem zlD{M:MkrD}{V:World}{B:Nat}{w:World}{x:HeadD}{s:StateD}{a:ActD}{e:QSl}{nd:NodeD}(m:MkrAt M V)(h:St V B M.pa [] (List.replicate 4 (-1)) w)(b:zhn M.d x s a e nd)(T:zgW [1] 1 0 M.L)(K:M.sl=[0])(f:M.nl=[1,2])(H:M.nw=3)(hp:M.d.p=CP):
 Calls Tryz.prog 23 #[M.v] w (Em V B M.pa w (.tuple #[]) cAll zbB):=by
 have A:M.L.tl=[1]:=T.tl;have Y:M.L.fl.map HeadD.ws=[[0]]:=T.fl;have P:M.L.port=2:=T.port;have J:x.w.n=1:=by
  obtain⟨_,_,x',_,R,E⟩:=zV m.pl.hs (i:=0) (by rw[<-m.pl.hs.1,b.hs];exact Nat.one_pos)
  rw[b.hs]at R;obtain rfl:x=x':=zoq R;have:=E.2.1;rw[b.xw]at this;exact this.symm
 obtain⟨y,g,Q⟩:=List.map_eq_singleton_iff.1 Y;have c:zY M.L ⟨0,0⟩=0:=by
  unfold zY;rw[if_neg (by decide),if_neg (by decide),g]
  show y.ws.getD 0 0=0;rw[Q];rfl
 have q:zfL M x a e:=⟨hp,b.hs,b.xw,J,b.out,b.os,c,A,P,K,f,H⟩;have l:zbh M.L ⟨((0:Nat):Int),((0:Nat):Int)⟩:=.inr (.inr ⟨0,0,rfl,rfl,by rw[g];exact Nat.one_pos,by rw[g];show 0<y.ws.length;rw[Q];decide⟩)
 have hh:zcI M 0 x:=by
  refine⟨by rw[b.hs];rfl,?_,fun j hj=>?_,by rw[A];decide,by rw[A];decide⟩
  ·rw[b.xw,J];refine⟨by decide,by decide,fun j hj=>?_,by decide,by decide⟩
   obtain rfl:j=0:=by omega
   unfold Mth.Fit;decide
  ·obtain rfl:j=0:=by omega
   exact⟨l,by rw[show zY M.L ⟨((0:Nat):Int),((0:Nat):Int)⟩=0 from c];decide⟩
 have I:M.d.states.n=1:=by rw[<-m.pl.ss.1,b.ss];rfl
 have F:M.d.nodes.n=1:=by rw[<-m.pl.ns.1,b.ns];rfl
 have a3:M.d.out.n=1:=by rw[<-m.pl.os.1,b.out];rfl
 have Z:s.cases.n=0:=by
  obtain⟨_,_,s',_,N,E⟩:=zV m.pl.ss (i:=0) (by omega)
  rw[b.ss]at N;obtain rfl:s=s':=zoq N;have:=E.2.2.2.2.2.1;rw[b.s2]at this;exact this.symm
 have a1:zab M 1000=1:=by unfold zab;rw[if_pos rfl,f];rfl
 have D:M.nl.length=M.d.nodes.n+1:=by rw[f,F];rfl
 have r:M.L.slots=((9:Nat):Int):=T.slots;refine zlo m h 9 r (by decide) (by omega) (by omega) (cF M x) (cG M a) ?_ ?_ (cAll,zbB) ?_
 ·intro i w' hi G;obtain rfl:i=0:=by omega
  have:=zlH m G (by rw[H];decide) 0 s (by rw[b.ss];rfl) (by rw[K];decide) Z 0 b.s1 x hh (by rw[b.s3];exact .inl ⟨rfl,by rw[f];decide⟩) (by rw[b.s3,a1];decide) (by show(jZ 9 (List.replicate 4 (-1))).1.length+300<=100000;decide)
  rw[b.s3]at this;exact this
 ·intro i w' hi G;obtain rfl:i=0:=by omega
  rw[I,zmj q]at G ⊢;refine zmX m G 0 nd (by rw[b.ns];rfl) (by rw[f];decide) b.n1 0 b.n2 1 b.n3 (by rw[f];decide) (by rw[f];decide) a (by rw[b.al];rfl) (cD M) 20 ?_ (by rw[b.os];show 1<=100;decide) ?_ ?_
  ·intro o t;have h1:=zeF M.L o.es;rw[b.os]at t;simp only[List.mem_singleton]at t;subst t;simp only[cD,zor,zjz];have:(qV M.L [⟨2,⟨0,0⟩,0⟩,⟨1,⟨0,0⟩,1⟩,⟨3,⟨0,0⟩,0⟩]).length<=3:=h1;omega
  ·intro W C o a0 a5 w2 t a4 a2;obtain⟨_,_,a',_,S,X⟩:=zV C.pl.al (i:=0) (by rw[<-C.pl.al.1,b.al];exact Nat.one_pos)
   rw[b.al]at S;obtain rfl:a=a':=zoq S;have U:=t;obtain⟨k,hk,ek⟩:=zoR U;obtain⟨_,_,_,O⟩:=X.2.2.2.2 k o (by rw[zoh hk,ek])
   have hq:=O.2.2.2.2.2;rw[b.os]at t;simp only[List.mem_singleton]at t;subst t;refine zhS C a2 _ rfl hq ?_ l (by rw[show zY M.L ⟨((0:Nat):Int),((0:Nat):Int)⟩=0 from c];decide) (by show a0.length+3+3<=100000;omega)
   have s1:zcH M.L ⟨2,⟨0,0⟩,0⟩:=.inr (.inl ⟨rfl,.inr ⟨l,by rw[show zY M.L ⟨(0:Int),(0:Int)⟩=0 from c];decide⟩⟩)
   have s2:zcH M.L ⟨1,⟨0,0⟩,1⟩:=.inl ⟨rfl,by decide⟩
   have s3:zcH M.L ⟨3,⟨0,0⟩,0⟩:=.inr (.inr (.inr ⟨by decide,by decide⟩))
   refine⟨fun y g=>?_,fun i y g=>?_,by show 3<=1000;decide⟩
   ·simp only[zoD,zoA,or_false]at g;rcases g with rfl|rfl|rfl
    ·exact s1
    ·exact s2
    ·exact s3
   ·match i,g with
    |0,g=>
     obtain rfl:_=y:=zoq g;exact⟨by show(0:Int)<=0-0;decide,by show(0:Int)-0<500;decide⟩
    |1,g=>
     obtain rfl:_=y:=zoq g;exact⟨by show(0:Int)<=(0-0+1)-0;decide,by show(0-0+1:Int)-0<500;decide⟩
    |2,g=>
     obtain rfl:_=y:=zoq g;exact⟨by show(0:Int)<=(0-0+1-0+1)-2;decide,by show(0-0+1-0+1:Int)-2<500;decide⟩
  ·show(zd0++(zaB++[xB 1])).length+20*a.os.length<=89000;rw[b.os];show(zd0++(zaB++[xB 1])).length+20*1<=89000;decide
 ·intro w' G;rw[I,F,zmj q,zns q]at G;have:=znZ m G D (fun h0 u=>by
   rw[b.out]at u;simp only[List.mem_singleton]at u;exact⟨0,u,by rw[b.hs];exact hh⟩) (by omega) (by rw[P];decide) (by decide) (by decide)
  rw[F,zlt q]at this;exact this
theorem zo{w:World}{g o b i:Nat}{v u:Value}(h:w.cell? ⟨g,o,none⟩=some v)(a:¬g=b):(w.setCell ⟨b,i,none⟩ u).cell? ⟨g,o,none⟩=some v:=by
 have:=zop w ⟨b,i,none⟩ u g (by exact a)
 simp only[World.cell?,this];exact h
theorem zjJ{w:World}{e:Ending}{w':World}(h:zaG zbB 9 [] cAll w e w'):zmU w e w':=by
 obtain⟨q,d,g,h2,b,c,f,a⟩:=h;refine⟨q,?_,?_,?_,?_,c,f,a⟩
 ·rw[d,zbb]
 ·rw[g];unfold zgF;rw[zbb,if_neg (by decide)]
 ·rw[h2];unfold zgG;rw[zbb,if_neg (by decide)]
 ·rw[b];unfold zgH;rw[zbb,if_neg (by decide)];rfl
theorem zlE{w d:World}{q:ProgD}{a b:Nat}{h f:Array Value}{n i:TypeId}(r:q.slots=9)(h2:q.ts=[])(k:q.cs=cProg)(l:q.lie d)(m:q.small)(hb:Below w.heap.size w d)(hr:d.heap[a]?=some (.cells h n (0,0)))(hf:d.heap[b]?=some (.cells f i (0,0)))(g:h.size<=5)(j:f.size<=5)(lr:w.heap.size<=a)(lf:w.heap.size<=b)(c:¬a=b)(x y z u v:Value):
 zmU w (.returned (.tuple #[q.v,.agg #[.int .i64 0,.int .i64 0]])) (((((d.setCell ⟨a,0,none⟩ x).setCell ⟨a,1,none⟩ y).setCell ⟨a,2,none⟩ z).setCell ⟨b,0,none⟩ u).setCell ⟨b,1,none⟩ v):=by
 have r1:=yx hr 0 x;have o:=yx r1 1 y;have f1:(((d.setCell ⟨a,0,none⟩ x).setCell ⟨a,1,none⟩ y).setCell ⟨a,2,none⟩ z).heap[b]?=some (.cells f i (0,0)):=by
  rw[zop _ _ _ _ (by show b≠a;exact fun e=>c e.symm),zop _ _ _ _ (by show b≠a;exact fun e=>c e.symm),zop _ _ _ _ (by show b≠a;exact fun e=>c e.symm)]
  exact hf
 have f2:=yx f1 0 u;refine⟨q,rfl,r,h2,k,?_,m,((((hb.setCell (p:=⟨a,0,none⟩) lr _).setCell (p:=⟨a,1,none⟩) lr _).setCell (p:=⟨a,2,none⟩) lr _).setCell (p:=⟨b,0,none⟩) lf _).setCell (p:=⟨b,1,none⟩) lf _⟩;exact qZ (qZ (qZ (qZ (qZ l h2 hr g 0 x) h2 r1 (by simpa using g) 1 y) h2 o (by simpa using g) 2 z) h2 f1 j 0 u) h2 f2 (by simpa using j) 1 v
theorem zmV(d:PlanD)(w:World)(hp:d.p=CP)(B:d.lie w)(hs:d.small):Calls Tryz.prog 10 #[d.v] w (zmU w):=by
 obtain⟨x,s,a,e,nd,y⟩:=zgC hp;obtain⟨pb,hpb⟩:∃b,b=w.heap.size:=⟨_,rfl⟩;obtain⟨rb,hrb⟩:∃b,b=w.heap.size+1:=⟨_,rfl⟩;obtain⟨fb,hfb⟩:∃b,b=w.heap.size+1+1:=⟨_,rfl⟩;obtain⟨j,hW3⟩:∃j,j=((w.alloc (.cells #[.slice d.heads.a d.heads.n d.heads.c,.slice d.mta.a d.mta.n d.mta.c,.slice d.states.a d.states.n d.states.c,.slice d.acts.a d.acts.n d.acts.c,.slice d.tabs.a d.tabs.n d.tabs.c,.slice d.nodes.a d.nodes.n d.nodes.c,.slice d.out.a d.out.n d.out.c] 29)).alloc (.cells #[.int .i64 0,.slice none 0 0,.slice none 0 0] 44)).alloc (.cells #[.int .i64 0,.int .i64 0] 34):=⟨_,rfl⟩;have b3:Below w.heap.size w j:=by rw[hW3];exact ze (ze (ze (zof _ _)))
 have I:j.heap[pb]?=some (.cells #[.slice d.heads.a d.heads.n d.heads.c,.slice d.mta.a d.mta.n d.mta.c,.slice d.states.a d.states.n d.states.c,.slice d.acts.a d.acts.n d.acts.c,.slice d.tabs.a d.tabs.n d.tabs.c,.slice d.nodes.a d.nodes.n d.nodes.c,.slice d.out.a d.out.n d.out.c] 29 (0,0)):=by
  rw[hW3,hpb,Below.heap_alloc _ _ _ (by simp;omega),Below.heap_alloc _ _ _ (by simp)]
  exact zK _ _ _
 have hR:j.heap[rb]?=some (.cells #[.int .i64 0,.slice none 0 0,.slice none 0 0] 44 (0,0)):=by
  rw[hW3,hrb,Below.heap_alloc _ _ _ (by simp)]
  have:=zK (w.alloc (.cells #[.slice d.heads.a d.heads.n d.heads.c,.slice d.mta.a d.mta.n d.mta.c,.slice d.states.a d.states.n d.states.c,.slice d.acts.a d.acts.n d.acts.c,.slice d.tabs.a d.tabs.n d.tabs.c,.slice d.nodes.a d.nodes.n d.nodes.c,.slice d.out.a d.out.n d.out.c] 29)) #[.int .i64 0,.slice none 0 0,.slice none 0 0] 44;simpa using this
 have hF:j.heap[fb]?=some (.cells #[.int .i64 0,.int .i64 0] 34 (0,0)):=by
  rw[hW3,hfb];have:=zK ((w.alloc (.cells #[.slice d.heads.a d.heads.n d.heads.c,.slice d.mta.a d.mta.n d.mta.c,.slice d.states.a d.states.n d.states.c,.slice d.acts.a d.acts.n d.acts.c,.slice d.tabs.a d.tabs.n d.tabs.c,.slice d.nodes.a d.nodes.n d.nodes.c,.slice d.out.a d.out.n d.out.c] 29)).alloc (.cells #[.int .i64 0,.slice none 0 0,.slice none 0 0] 44)) #[.int .i64 0,.int .i64 0] 34;simpa using this
 have s3:j.heap.size=w.heap.size+3:=by rw[hW3];simp
 have d9:Hid (∀w',Below j.heap.size j w'->w'.heap[pb]?=some (.cells #[.slice d.heads.a d.heads.n d.heads.c,.slice d.mta.a d.mta.n d.mta.c,.slice d.states.a d.states.n d.states.c,.slice d.acts.a d.acts.n d.acts.c,.slice d.tabs.a d.tabs.n d.tabs.c,.slice d.nodes.a d.nodes.n d.nodes.c,.slice d.out.a d.out.n d.out.c] 29 (0,0))):=fun w' h=>(h.block pb (by omega)).trans I
 have c0:Hid (∀w',Below j.heap.size j w'->w'.heap[rb]?=some (.cells #[.int .i64 0,.slice none 0 0,.slice none 0 0] 44 (0,0))):=fun w' h=>(h.block rb (by omega)).trans hR
 have a4:Hid (∀w',Below j.heap.size j w'->w'.heap[fb]?=some (.cells #[.int .i64 0,.int .i64 0] 34 (0,0))):=fun w' h=>(h.block fb (by omega)).trans hF
 have e1:Hid (∀w',Below j.heap.size j w'->d.lie w'):=fun w' h=>(B.step b3).step h
 have a0:d.heads.n=1:=by rw[<-B.hs.1,y.hs];rfl
 have S:d.mta.n=0:=by have:=B.ms.1;rw[y.ms]at this;exact this.symm
 have c4:d.states.n=1:=by rw[<-B.ss.1,y.ss];rfl
 have b0:d.nodes.n=1:=by rw[<-B.ns.1,y.ns];rfl
 have d4:d.tabs.n=0:=by have:=B.ts.1;rw[y.ts]at this;exact this.symm
 have a2:x.w.n=1:=by
  obtain⟨_,_,x',_,b1,d2⟩:=zV B.hs (i:=0) (by omega)
  rw[y.hs]at b1;obtain rfl:x=x':=zoq b1;have:=d2.2.1;rw[y.xw]at this;exact this.symm
 have b2:zdw d:=⟨fun t ht=>by rw[y.ts]at ht;simp at ht,by omega,hs.an,hs.aw⟩
 have c1:=hid (fun w' (h:Below j.heap.size j w')=>zci d w' ((B.step b3).step h) hs)
 have a9:=hid (fun w' (h:Below j.heap.size j w')=>zmW d w' ((B.step b3).step h) [1] (by rw[y.hs];show[x.w.n]=[1];rw[a2]) (by rw[a0,S];decide) (by intro n F;simp only[List.mem_singleton]at F;omega) (by omega) (by omega))
 have a6:=hid (fun w' (h:Below j.heap.size j w')=>zg0 d w' ((B.step b3).step h) b2)
 have d3:=hid y;have a7:=hid hp;have HN:=hid (And.intro a0 (And.intro S (And.intro c4 b0)));have d0:=hid b3;have d1:Hid (d.ts.map (kN d)=[]):=by show _=_;rw[y.ts];rfl
 have c8:pb<j.heap.size:=by omega
 have T:=(zj I 0).trans (rfl:_=some (Value.slice d.heads.a d.heads.n d.heads.c));have Y:=(zj I 1).trans (rfl:_=some (Value.slice d.mta.a d.mta.n d.mta.c));have K:=(zj I 2).trans (rfl:_=some (Value.slice d.states.a d.states.n d.states.c));have N:=(zj I 3).trans (rfl:_=some (Value.slice d.acts.a d.acts.n d.acts.c));have P:=(zj I 4).trans (rfl:_=some (Value.slice d.tabs.a d.tabs.n d.tabs.c));have X:=(zj I 5).trans (rfl:_=some (Value.slice d.nodes.a d.nodes.n d.nodes.c));have p6:=(zj I 6).trans (rfl:_=some (Value.slice d.out.a d.out.n d.out.c));have f:¬pb=rb:=by omega
 have g:¬pb=fb:=by omega
 have c2:¬rb=fb:=by omega
 have d7:¬fb=rb:=by omega
 have ES:=hid s3;have EW:=hid hW3;have EP:=hid hpb;have ER:=hid hrb;have EF:=hid hfb;have B0:=hid (zof j.heap.size j);clear B hs hp y hW3 hpb hrb hfb b3 I hR hF s3 a0 S c4 b0 d4 a2 b2;dsimp only[PlanD.v]at*;go_enter Tryz.func10,Tryz.ntmps10
 go_upto_region 1 with fail
 rw[<-EW.out,<-EF.out,<-ER.out,<-EP.out];go_wp2_with fail
 refine(c1.out _ B0.out).mono ?_;rintro ef w4 ⟨C,A,rfl,Z,b4⟩;rw[a7.out]at Z;obtain⟨rfl,rfl⟩:=zch Z CP.flow;have E:Below j.heap.size j (w4.alloc (.cells #[.int .i64 0,.int .i64 0] 34)):=ze b4;obtain⟨w5,hw5⟩:∃w5,w5=w4.alloc (.cells #[.int .i64 0,.int .i64 0] 34):=⟨_,rfl⟩;rw[<-hw5]at E;have d6:=hid hw5;have U:=hid E;have q0:=za T E;have q1:=za Y E;have q2:=za K E;have q3:=za N E;have q4:=za P E;have q5:=za X E;have q6:=za p6 E;have J:=zom c8 E.size;have f0:w5.cell? ⟨w4.heap.size,0,none⟩=some (.int .i64 0):=by rw[hw5];simp
 have c5:w4.heap.size<w5.heap.size:=by rw[hw5];simp
 obtain⟨t4,ht4⟩:∃b,b=w4.heap.size:=⟨_,rfl⟩;rw[<-ht4]at f0 c5;have d5:=hid ht4;clear hw5 ht4 b4 E c1 Z T Y K N P X p6;go_upto_region 2 with fail
 rw[<-d6.out,<-d5.out];go_wp2_with fail
 refine(a9.out _ U.out).mono ?_;rintro em w6 ⟨M,W0,rfl,hM,hS,a1,H,O,Q,R,b6⟩;have F:=HN.out;rw[F.2.2.1,F.2.2.2]at hS R Q;rw[F.2.2.1]at O;rw[F.1,F.2.1]at H;have V:=hid (zlD hM hS (by rw[a1];exact d3.out) H O Q R (by rw[a1];exact a7.out))
 have HM:=hid hM;have c9:=hid H;have e0:=hid (zh U.out b6);have a8:=hid b6;clear hM hS a1 H O Q R b6 a9 f0 c5 F;dsimp only[MkrD.v]at V ⊢;go_wp2_with fail
 refine V.out.mono ?_;rintro ea W ⟨rfl,S7,b7⟩;have m:Below w5.heap.size w5 W:=a8.out.trans b7;have r:=hid (zh U.out m);have c7:=HM.out.c7 S7.cov;have c14:=(HM.out.cov S7.cov).box.c14;have c6:M.L.slots=9:=c9.out.slots;rw[c6]at c14;have e2:=zog _ _ c7;have T:=za q0 m;have Y:=za q1 m;have K:=za q2 m;have N:=za q3 m;have P:=za q4 m;have X:=za q5 m;have p6:=za q6 m;have d8:=zom J m.size;have c3:=hid (fun w' (b:Below W.heap.size W w') (s:QSl) (hr:QRow 3 ShapeD.lie w' s []) (F:s.nil0)=>zlC (S7.step b) (by rw[zlu];decide) 9 (by decide) hr F (by have:=hr.1;simp at this;omega) |>.mono fun _ _=>zjJ)
 have B0:=hid (zof W.heap.size W);clear V m b7 S7 q0 q1 q2 q3 q4 q5 q6;dsimp only[ProgD.v]at*;have k:¬M.mb=rb:=fun ee=>by
  have h1:=c0.out W r.out;rw[ee,zj h1]at c14;simp at c14
 have G:¬M.mb=fb:=fun ee=>by
  have h1:=a4.out W r.out;rw[ee,zj h1]at c14;simp at c14
 clear c8 J c6;go_wp2_with fail
 go_region_held3 (fun w'=>w'.cell? ⟨M.mb,7,none⟩=some (.pointer (some ⟨M.pa,0,none⟩))/\w'.cell? ⟨M.mb,14,none⟩=some (.int .i64 9)/\w'.cell? ⟨pb,0,none⟩=some (.slice d.heads.a d.heads.n d.heads.c)/\w'.cell? ⟨pb,1,none⟩=some (.slice d.mta.a d.mta.n d.mta.c)/\w'.cell? ⟨pb,2,none⟩=some (.slice d.states.a d.states.n d.states.c)/\w'.cell? ⟨pb,3,none⟩=some (.slice d.acts.a d.acts.n d.acts.c)/\w'.cell? ⟨pb,4,none⟩=some (.slice d.tabs.a d.tabs.n d.tabs.c)/\w'.cell? ⟨pb,5,none⟩=some (.slice d.nodes.a d.nodes.n d.nodes.c)/\w'.cell? ⟨pb,6,none⟩=some (.slice d.out.a d.out.n d.out.c)) (first|exact⟨za c7 l,za c14 l,za T l,za Y l,za K l,za N l,za P l,za X l,za p6 l⟩|exact⟨za c7 o,za c14 o,za T o,za Y o,za K o,za N o,za P o,za X o,za p6 o⟩|exact⟨zo (zo (zo m7 k) k) k,zo (zo (zo m14 k) k) k,zo (zo (zo m0 f) f) f,zo (zo (zo m1 f) f) f,zo (zo (zo m2 f) f) f,zo (zo (zo m3 f) f) f,zo (zo (zo m4 f) f) f,zo (zo (zo m5 f) f) f,zo (zo (zo m6 f) f) f⟩|exact⟨zo (zo (zo (zo (zo m7 k) k) k) G) G,zo (zo (zo (zo (zo m14 k) k) k) G) G,zo (zo (zo (zo (zo m0 f) f) f) g) g,zo (zo (zo (zo (zo m1 f) f) f) g) g,zo (zo (zo (zo (zo m2 f) f) f) g) g,zo (zo (zo (zo (zo m3 f) f) f) g) g,zo (zo (zo (zo (zo m4 f) f) f) g) g,zo (zo (zo (zo (zo m5 f) f) f) g) g,zo (zo (zo (zo (zo m6 f) f) f) g) g⟩|go_keep) (first
  |(go_at_call 19;refine(a6.out _ r.out.drew).mono ?_;rintro es w8 ⟨sl,rfl,hr,a5,o⟩;rw[d1.out]at hr;have o:=zh B0.out.drew o)
  |(go_at_call 24;refine(c3.out _ o sl hr a5).mono ?_;rintro ed w9 ⟨q,rfl,g1,g2,g3,g4,g5,l⟩;have G1:=hid g1;have G2:=hid g2;have G3:=hid g3;have G4:=hid g4;have G5:=hid g5;clear g1 g2 g3 g4 g5;have l:=zh o l;have u:=c0.out w9 (zh r.out l);have D:=a4.out w9 (zh r.out l);have z0:=(zj u 0).trans (rfl:_=some (Value.int .i64 0));have z1:=(zj u 1).trans (rfl:_=some (Value.slice none 0 0));have z2:=(zj u 2).trans (rfl:_=some (Value.slice none 0 0));have y0:=(zj D 0).trans (rfl:_=some (Value.int .i64 0));have y1:=(zj D 1).trans (rfl:_=some (Value.int .i64 0));have zz:∀i,w9.frozen? ⟨rb,i,none⟩=false:=(fun i=>by simp[World.frozen?,u]);have yz:∀i,w9.frozen? ⟨fb,i,none⟩=false:=(fun i=>by simp[World.frozen?,D]);have zl:=(zoj.1 u).1;have yl:=(zoj.1 D).1;obtain⟨m7,m14,m0,m1,m2,m3,m4,m5,m6⟩:(fun w'=>w'.cell? ⟨M.mb,7,none⟩=some (.pointer (some ⟨M.pa,0,none⟩))/\w'.cell? ⟨M.mb,14,none⟩=some (.int .i64 9)/\w'.cell? ⟨pb,0,none⟩=some (.slice d.heads.a d.heads.n d.heads.c)/\w'.cell? ⟨pb,1,none⟩=some (.slice d.mta.a d.mta.n d.mta.c)/\w'.cell? ⟨pb,2,none⟩=some (.slice d.states.a d.states.n d.states.c)/\w'.cell? ⟨pb,3,none⟩=some (.slice d.acts.a d.acts.n d.acts.c)/\w'.cell? ⟨pb,4,none⟩=some (.slice d.tabs.a d.tabs.n d.tabs.c)/\w'.cell? ⟨pb,5,none⟩=some (.slice d.nodes.a d.nodes.n d.nodes.c)/\w'.cell? ⟨pb,6,none⟩=some (.slice d.out.a d.out.n d.out.c)) w9:=⟨za c7 l,za c14 l,za T l,za Y l,za K l,za N l,za P l,za X l,za p6 l⟩))
 have a3:=hid (zlE G1.out G2.out G3.out G4.out G5.out (zh d0.out (zh r.out l)) u D (by decide) (by decide) (by have:=ER.out;omega) (by have:=EF.out;omega) c2)
 clear c3 a6 hr a5 o l m7 m14 m0 m1 m2 m3 m4 m5 m6 c7 c14 T Y K N P X p6;go_wp2;exact bodyPost_ret (v:=.tuple #[.agg #[.int .i64 q.slots,.slice q.tabs.a q.tabs.n q.tabs.c,.slice q.code.a q.code.n q.code.c],.agg #[.int .i64 0,.int .i64 0]]) (by simp[results,Tryz.results10,go_sem, *]) rfl (a3.out _ _ _ _ _)
end Go.Proofs.YtdajaaondlekfaaGreat
