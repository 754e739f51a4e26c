import Derived.Test.YtbmcgbmegcpgnaaGreatVZDocC
set_option maxHeartbeats 16000000
set_option maxRecDepth 20000
set_option linter.unusedSimpArgs false
namespace Go.Proofs.YtbmcgbmegcpgnaaGreat
open Go.RowKit
theorem Cat.out{w b wr:World}{a:Option Addr}{l c:Nat}{bs:List Int}(h:Cat b a l c bs wr)(hb:Below w.heap.size w b)(d:0<l):BIs bs w (.returned (.slice a l c)) wr:=by
 have e:=h.1.1;subst e;exact⟨a,c,rfl,h.1.far hb.size,fun e=>by omega,zh hb h.2⟩
theorem zve(x:OpD)(w:World)(hr:QRow 4 PushD.lie w x.e x.es)(K:wfI x.kind/\wfI x.r.h/\wfI x.r.f/\wfI x.head)(hn:x.e.n<=500):Calls Tryz.prog 43 #[.agg #[.int .i64 x.kind,.int .i64 x.r.h,.int .i64 x.r.f,.int .i64 x.head,.slice x.e.a x.e.n x.e.c]] w (BIs (opL x) w):=by
 obtain⟨S,hW⟩:∃S,S=w.alloc (.cells #[.int .i64 x.kind,.int .i64 x.r.h,.int .i64 x.r.f,.int .i64 x.head,.slice x.e.a x.e.n x.e.c] 59):=⟨_,rfl⟩;obtain⟨xb,exb⟩:∃b,b=w.heap.size:=⟨_,rfl⟩;have b1:Below w.heap.size w S:=by rw[hW];exact ze (zof _ _)
 have hc:∀(o:Nat) (v:Value),(#[.int .i64 x.kind,.int .i64 x.r.h,.int .i64 x.r.f,.int .i64 x.head,.slice x.e.a x.e.n x.e.c]:Array Value)[o]?=some v->S.cell? ⟨xb,o,none⟩=some v:=fun o v hv=>by rw[hW,exb];exact(zod _ _ _ _ rfl).trans hv
 have i:Hid (∀w',Below S.heap.size S w'->w'.cell? ⟨xb,0,none⟩=some (.int .i64 x.kind)/\w'.cell? ⟨xb,1,none⟩=some (.int .i64 x.r.h)/\w'.cell? ⟨xb,2,none⟩=some (.int .i64 x.r.f)/\w'.cell? ⟨xb,3,none⟩=some (.int .i64 x.head)/\w'.cell? ⟨xb,4,none⟩=some (.slice x.e.a x.e.n x.e.c)):=fun w' hb=>⟨za (hc 0 _ rfl) hb,za (hc 1 _ rfl) hb,za (hc 2 _ rfl) hb,za (hc 3 _ rfl) hb,za (hc 4 _ rfl) hb⟩
 obtain⟨D,-,-,-,-⟩:=i.out S (zof _ _);have F:=hid (zpt x.kind S K.1);have j:=hid (And.intro (zqO x.kind) (kd K.1));have R:=hid (fun w' (hb:Below S.heap.size S w')=>zuH x.e x.es w' (hr.step PushD.keeps (zh b1 hb)) hn)
 have Q:=hid (zeF (zqQ hr) (by rw[hr.1];exact hn))
 have N:=hid (fun w'=>zpt x.head w' K.2.2.2)
 have J:=hid (kd K.2.2.2);have P:=hid (zqb K.2.1 K.2.2.1);have T:Hid (∀wr:World,∀w',w'=wr.alloc (.cells #[.int .i64 x.r.h,.int .i64 x.r.f] 3)->Below wr.heap.size wr w'/\Calls Tryz.prog 41 #[.slice (some ⟨wr.heap.size,0,none⟩) 2 2] w' (BIs (zoZ x.r) w')):=fun wr w' e=>by
  subst e;have:=zqm (some ⟨wr.heap.size,0,none⟩) 2 2 [x.r.h,x.r.f] _ (zqP wr _ _ K.2.1 K.2.2.1) (by omega)
  rw[show[x.r.h,x.r.f].flatMap zk=zoZ x.r by unfold zoZ;simp]at this
  exact⟨ze (zof _ _),this⟩
 have O:Hid (Mth.Byt (zoZ x.r)):=xf (yv _) (yv _);have E:=hid b1;have EW:=hid hW;have Y:=hid exb;have HQ:Hid (0<=xb/\xb<S.heap.size):=by rw[hW,exb];exact⟨zon _,by simp⟩
 clear hW exb b1 hc hr K hn;by_cases d:x.kind=1
 ·have e1:(x.kind==1)=true:=by rw[d];rfl
  have e2:(x.kind==2)=false:=by rw[d];rfl
  have e3:(x.kind==3)=false:=by rw[d];rfl
  have e5:(x.kind==5)=false:=by rw[d];rfl
  have e6:(x.kind==6)=false:=by rw[d];rfl
  have I:=hid d;clear d;go_enter Tryz.func43,Tryz.ntmps43
  go_wp2_with fail
  rw[<-EW.out,<-Y.out];clear EW Y;refine F.out.mono ?_;rintro e y ⟨X,c1,rfl,m,t,l⟩;have g:Hid (Cat S X (zk x.kind).length c1 (zk x.kind) y):=⟨m,l⟩;obtain⟨D,p1,p2,Z,p4⟩:=i.out y g.out.2;have G:xb<y.heap.size:=zog _ _ D;generalize q:zk x.kind=L1 at*;have H:=hid q;generalize s:L1.length=l1 at*;have a8:=hid s;clear q s m t l F;obtain⟨V1,ev1⟩:∃V,V=y.alloc (.cells #[.int .i64 x.r.h,.int .i64 x.r.f] 3):=⟨_,rfl⟩;obtain⟨a5,a9⟩:=T.out y V1 ev1;have A:=hid a9;have c0:=hid (g.out.step a5);have c4:=hid ev1;clear a5 a9 ev1;go_wp2_with (fail)
  rw[<-c4.out];refine A.out.mono ?_;rintro e v2 ⟨b2,d2,rfl,m,t,l⟩;have W:=P.out;obtain⟨a2,c2,w2,k,B⟩:=Cat.more c0.out m t l (O.out) (by have:=j.out;omega)
  have u:=hid B;obtain⟨D,p1,p2,Z,p4⟩:=i.out w2 u.out.2;have G:xb<w2.heap.size:=zog _ _ D;generalize C:zoZ x.r=L2 at*;have M:=hid C;generalize L:L2.length=l2 at*;clear C L m t l A B;have a0:=hid (R.out w2 u.out.2);go_wp2_with (first|fail|(at_builtin;refine yg rfl _ _ rfl rfl rfl k ?_))
  refine a0.out.mono ?_;rintro e v3 ⟨b3,d3,rfl,m,t,l⟩;have c5:=Q.out;obtain⟨a3,c3,w3,U,a6⟩:=Cat.more u.out m t l (zp7 _) (by have:=j.out;omega)
  have a7:=hid a6;obtain⟨D,p1,p2,Z,p4⟩:=i.out w3 a7.out.2;have G:xb<w3.heap.size:=zog _ _ D;generalize a4:zpc x.es=L3 at*;have b4:=hid a4;generalize b8:L3.length=l3 at*;clear a4 b8 m t l a0 a6;have HE:Hid (BIs (opL x) w (.returned (.slice a3 (l1+l2+l3) c3)) w3):=by
   rw[zuT x I.out,H.out,M.out,b4.out];exact Cat.out a7.out E.out (by have:=j.out;omega)
  clear g i R N T j Q J P O E;go_wp2_with (first|fail|(at_builtin;refine yg rfl _ _ rfl rfl rfl U ?_))
  go_ret;exact HE.out
 have b9:=d;clear d;by_cases d:x.kind=2
 ·have e1:(x.kind==1)=false:=by rw[d];rfl
  have e2:(x.kind==2)=true:=by rw[d];rfl
  have e3:(x.kind==3)=false:=by rw[d];rfl
  have e5:(x.kind==5)=false:=by rw[d];rfl
  have e6:(x.kind==6)=false:=by rw[d];rfl
  have I:=hid d;clear d;go_enter Tryz.func43,Tryz.ntmps43
  go_wp2_with fail
  rw[<-EW.out,<-Y.out];clear EW Y;refine F.out.mono ?_;rintro e y ⟨X,c1,rfl,m,t,l⟩;have g:Hid (Cat S X (zk x.kind).length c1 (zk x.kind) y):=⟨m,l⟩;obtain⟨D,p1,p2,Z,p4⟩:=i.out y g.out.2;have G:xb<y.heap.size:=zog _ _ D;generalize q:zk x.kind=L1 at*;have H:=hid q;generalize s:L1.length=l1 at*;have a8:=hid s;clear q s m t l F;have A:=hid (N.out y);go_wp2_with (fail)
  refine A.out.mono ?_;rintro e v2 ⟨b2,d2,rfl,m,t,l⟩;have W:=J.out;obtain⟨a2,c2,w2,k,B⟩:=Cat.more g.out m t l (k9 _) (by have:=j.out;omega)
  have u:=hid B;obtain⟨D,p1,p2,Z,p4⟩:=i.out w2 u.out.2;have G:xb<w2.heap.size:=zog _ _ D;generalize C:zk x.head=L2 at*;have M:=hid C;generalize L:L2.length=l2 at*;clear C L m t l A B;have HE:Hid (BIs (opL x) w (.returned (.slice a2 (l1+l2) c2)) w2):=by
   rw[zsx x (.inl I.out),H.out,M.out];exact Cat.out u.out E.out (by have:=j.out;omega)
  clear g i R N T j Q J P O E;go_wp2_with (first|fail|(at_builtin;refine yg rfl _ _ rfl rfl rfl k ?_))
  go_ret;exact HE.out
 have b7:=d;clear d;by_cases d:x.kind=3
 ·have e1:(x.kind==1)=false:=by rw[d];rfl
  have e2:(x.kind==2)=false:=by rw[d];rfl
  have e3:(x.kind==3)=true:=by rw[d];rfl
  have e5:(x.kind==5)=false:=by rw[d];rfl
  have e6:(x.kind==6)=false:=by rw[d];rfl
  have I:=hid d;clear d;go_enter Tryz.func43,Tryz.ntmps43
  go_wp2_with fail
  rw[<-EW.out,<-Y.out];clear EW Y;refine F.out.mono ?_;rintro e y ⟨X,c1,rfl,m,t,l⟩;have g:Hid (Cat S X (zk x.kind).length c1 (zk x.kind) y):=⟨m,l⟩;obtain⟨D,p1,p2,Z,p4⟩:=i.out y g.out.2;have G:xb<y.heap.size:=zog _ _ D;generalize q:zk x.kind=L1 at*;have H:=hid q;generalize s:L1.length=l1 at*;have a8:=hid s;clear q s m t l F;have A:=hid (N.out y);go_wp2_with (fail)
  refine A.out.mono ?_;rintro e v2 ⟨b2,d2,rfl,m,t,l⟩;have W:=J.out;obtain⟨a2,c2,w2,k,B⟩:=Cat.more g.out m t l (k9 _) (by have:=j.out;omega)
  have u:=hid B;obtain⟨D,p1,p2,Z,p4⟩:=i.out w2 u.out.2;have G:xb<w2.heap.size:=zog _ _ D;generalize C:zk x.head=L2 at*;have M:=hid C;generalize L:L2.length=l2 at*;clear C L m t l A B;have HE:Hid (BIs (opL x) w (.returned (.slice a2 (l1+l2) c2)) w2):=by
   rw[zsx x (.inr I.out),H.out,M.out];exact Cat.out u.out E.out (by have:=j.out;omega)
  clear g i R N T j Q J P O E;go_wp2_with (first|fail|(at_builtin;refine yg rfl _ _ rfl rfl rfl k ?_))
  go_ret;exact HE.out
 have b5:=d;clear d;by_cases d:x.kind=5
 ·have e1:(x.kind==1)=false:=by rw[d];rfl
  have e2:(x.kind==2)=false:=by rw[d];rfl
  have e3:(x.kind==3)=false:=by rw[d];rfl
  have e5:(x.kind==5)=true:=by rw[d];rfl
  have e6:(x.kind==6)=false:=by rw[d];rfl
  have I:=hid d;clear d;go_enter Tryz.func43,Tryz.ntmps43
  go_wp2_with fail
  rw[<-EW.out,<-Y.out];clear EW Y;refine F.out.mono ?_;rintro e y ⟨X,c1,rfl,m,t,l⟩;have g:Hid (Cat S X (zk x.kind).length c1 (zk x.kind) y):=⟨m,l⟩;obtain⟨D,p1,p2,Z,p4⟩:=i.out y g.out.2;have G:xb<y.heap.size:=zog _ _ D;generalize q:zk x.kind=L1 at*;have H:=hid q;generalize s:L1.length=l1 at*;have a8:=hid s;clear q s m t l F;have A:=hid (R.out y g.out.2);go_wp2_with (fail)
  refine A.out.mono ?_;rintro e v2 ⟨b2,d2,rfl,m,t,l⟩;have W:=Q.out;obtain⟨a2,c2,w2,k,B⟩:=Cat.more g.out m t l (zp7 _) (by have:=j.out;omega)
  have u:=hid B;obtain⟨D,p1,p2,Z,p4⟩:=i.out w2 u.out.2;have G:xb<w2.heap.size:=zog _ _ D;generalize C:zpc x.es=L2 at*;have M:=hid C;generalize L:L2.length=l2 at*;clear C L m t l A B;have HE:Hid (BIs (opL x) w (.returned (.slice a2 (l1+l2) c2)) w2):=by
   rw[zuj x I.out,H.out,M.out];exact Cat.out u.out E.out (by have:=j.out;omega)
  clear g i R N T j Q J P O E;go_wp2_with (first|fail|(at_builtin;refine yg rfl _ _ rfl rfl rfl k ?_))
  go_ret;exact HE.out
 have b6:=d;clear d;by_cases d:x.kind=6
 ·have e1:(x.kind==1)=false:=by rw[d];rfl
  have e2:(x.kind==2)=false:=by rw[d];rfl
  have e3:(x.kind==3)=false:=by rw[d];rfl
  have e5:(x.kind==5)=false:=by rw[d];rfl
  have e6:(x.kind==6)=true:=by rw[d];rfl
  have I:=hid d;clear d;go_enter Tryz.func43,Tryz.ntmps43
  go_wp2_with fail
  rw[<-EW.out,<-Y.out];clear EW Y;refine F.out.mono ?_;rintro e y ⟨X,c1,rfl,m,t,l⟩;have g:Hid (Cat S X (zk x.kind).length c1 (zk x.kind) y):=⟨m,l⟩;obtain⟨D,p1,p2,Z,p4⟩:=i.out y g.out.2;have G:xb<y.heap.size:=zog _ _ D;generalize q:zk x.kind=L1 at*;have H:=hid q;generalize s:L1.length=l1 at*;have a8:=hid s;clear q s m t l F;obtain⟨V1,ev1⟩:∃V,V=y.alloc (.cells #[.int .i64 x.r.h,.int .i64 x.r.f] 3):=⟨_,rfl⟩;obtain⟨a5,a9⟩:=T.out y V1 ev1;have A:=hid a9;have c0:=hid (g.out.step a5);have c4:=hid ev1;clear a5 a9 ev1;go_wp2_with (fail)
  rw[<-c4.out];refine A.out.mono ?_;rintro e v2 ⟨b2,d2,rfl,m,t,l⟩;have W:=P.out;obtain⟨a2,c2,w2,k,B⟩:=Cat.more c0.out m t l (O.out) (by have:=j.out;omega)
  have u:=hid B;obtain⟨D,p1,p2,Z,p4⟩:=i.out w2 u.out.2;have G:xb<w2.heap.size:=zog _ _ D;generalize C:zoZ x.r=L2 at*;have M:=hid C;generalize L:L2.length=l2 at*;clear C L m t l A B;have a0:=hid (N.out w2);go_wp2_with (first|fail|(at_builtin;refine yg rfl _ _ rfl rfl rfl k ?_))
  refine a0.out.mono ?_;rintro e v3 ⟨b3,d3,rfl,m,t,l⟩;have c5:=J.out;obtain⟨a3,c3,w3,U,a6⟩:=Cat.more u.out m t l (k9 _) (by have:=j.out;omega)
  have a7:=hid a6;obtain⟨D,p1,p2,Z,p4⟩:=i.out w3 a7.out.2;have G:xb<w3.heap.size:=zog _ _ D;generalize a4:zk x.head=L3 at*;have b4:=hid a4;generalize b8:L3.length=l3 at*;clear a4 b8 m t l a0 a6;have HE:Hid (BIs (opL x) w (.returned (.slice a3 (l1+l2+l3) c3)) w3):=by
   rw[zuU x I.out,H.out,M.out,b4.out];exact Cat.out a7.out E.out (by have:=j.out;omega)
  clear g i R N T j Q J P O E;go_wp2_with (first|fail|(at_builtin;refine yg rfl _ _ rfl rfl rfl U ?_))
  go_ret;exact HE.out
 have b0:=d;clear d
 ·have I:Hid (x.kind≠1/\x.kind≠2/\x.kind≠3/\x.kind≠5/\x.kind≠6):=⟨b9,b7,b5,b6,b0⟩;have e1:(x.kind==1)=false:=by simpa using b9
  have e2:(x.kind==2)=false:=by simpa using b7
  have e3:(x.kind==3)=false:=by simpa using b5
  have e5:(x.kind==5)=false:=by simpa using b6
  have e6:(x.kind==6)=false:=by simpa using b0
  clear b9 b7 b5 b6 b0;go_enter Tryz.func43,Tryz.ntmps43
  go_wp2_with fail
  rw[<-EW.out,<-Y.out];clear EW Y;refine F.out.mono ?_;rintro e y ⟨X,c1,rfl,m,t,l⟩;have g:Hid (Cat S X (zk x.kind).length c1 (zk x.kind) y):=⟨m,l⟩;obtain⟨D,p1,p2,Z,p4⟩:=i.out y g.out.2;have G:xb<y.heap.size:=zog _ _ D;generalize q:zk x.kind=L1 at*;have H:=hid q;generalize s:L1.length=l1 at*;have a8:=hid s;clear q s m t l F;have HE:Hid (BIs (opL x) w (.returned (.slice X (l1) c1)) y):=by
   rw[zuk x I.out,H.out];exact Cat.out g.out E.out (by have:=j.out;omega)
  clear g i R N T j Q J P O E;go_wp2_with (fail)
  go_ret;exact HE.out
def NB(w w':World):Prop:=w.heap.size<=w'.heap.size/\∀(k:Nat) (cs:Array Value) (T:TypeId) (f:Nat × Nat),T≠5->w.heap[k]?=some (Obj.cells cs T f)->w'.heap[k]?=some (Obj.cells cs T f)
theorem NB.refl(w:World):NB w w:=⟨zos _,fun _ _ _ _ _ h=>h⟩
theorem NB.trans{a b c:World}(h:NB a b)(k:NB b c):NB a c:=⟨zoz h.1 k.1,fun j cs T f d e=>k.2 j cs T f d (h.2 j cs T f d e)⟩
theorem ky{w w':World}(b:Below w.heap.size w w'):NB w w':=⟨b.size,fun k _ _ _ _ h=>(b.block k (zoj.1 h).1).trans h⟩
theorem Cat.put2{w wr n:World}{a:Option Addr}{l c:Nat}{bs:List Int}(h:Cat w a l c bs wr){s:Option Addr}{c1:Nat}{L:List Int}(C:OwB wr.heap.size s L.length c1 L n)(D:L.length=0->s=none/\c1=0)(hb:Below wr.heap.size wr n)(A:Mth.Byt L)(hs:l+L.length<=9000000):
 ∃x t j,(Builtin.append_ #[30,30] 30 #[.slice a l c,.slice s L.length c1]).run Tryz.prog n=.ok (.slice x (l+L.length) t) j/\Cat w x (l+L.length) t (bs++L) j/\NB n j:=by
 have r:=h.1.step hb;have hz:=C.has A;have B:=zoz h.2.size hb.size;rcases Nat.eq_zero_or_pos L.length with e|e
 ·obtain⟨x,t,j,d,K⟩:=h.more C D hb A hs;obtain⟨rfl,rfl⟩:=D e;obtain⟨I,hi,-⟩:=info_parts Tryz.info5;have q:=run_append_owned_none n w.heap.size 30 30 5 I 1 Tryz.underlying30 hi _ l _ r.2;rw[e]at d;rw[q]at d;simp only[Result.ok.injEq]at d;obtain⟨-,rfl⟩:=d;rw[e];obtain rfl:L=[]:=List.length_eq_zero_iff.1 e;rw[List.append_nil];exact⟨a,c,n,q,⟨r,h.2.trans (hb.mono h.2.size)⟩,NB.refl _⟩
 ·obtain⟨b,off,rfl,_,_⟩:=hz.some e;have i:=r.row;have H:=r.1;subst H;obtain⟨g,cap,j,d,E,y⟩:=i.app (ad:=⟨b,off,none⟩) (m:=L.length) (c2:=c1) (zs:=L) rfl (zht hz) e (by omega) B
  refine⟨_,cap,j,d,⟨⟨by rw[List.length_append],E⟩,(h.2.trans (hb.mono h.2.size)).trans ((zof _ _).grown y B fun k o=>(i.blk o).1)⟩,⟨y.size,fun k cs T f J o=>?_⟩⟩
  refine(y.block k (zoj.1 o).1 (fun G=>?_)).trans o
  obtain⟨_,F,M,u⟩:=i.blk G.symm;rw[o]at u;simp only[zoo,Obj.cells.injEq]at u;exact J u.2.1
theorem Cat.put{w wr g:World}{a:Option Addr}{l c:Nat}{bs:List Int}(h:Cat w a l c bs wr){f:Option Addr}{c1:Nat}{L:List Int}(k:OwB wr.heap.size f L.length c1 L g)(m:L.length=0->f=none/\c1=0)(hb:Below wr.heap.size wr g)(j:Mth.Byt L)(hs:l+L.length<=9000000):
 ∃d e b,(Builtin.append_ #[30,30] 30 #[.slice a l c,.slice f L.length c1]).run Tryz.prog g=.ok (.slice d (l+L.length) e) b/\Cat w d (l+L.length) e (bs++L) b/\NB wr b:=by
 obtain⟨d,e,b,o,n,i⟩:=h.put2 k m hb j hs;exact⟨d,e,b,o,n,(ky hb).trans i⟩
end Go.Proofs.YtbmcgbmegcpgnaaGreat
