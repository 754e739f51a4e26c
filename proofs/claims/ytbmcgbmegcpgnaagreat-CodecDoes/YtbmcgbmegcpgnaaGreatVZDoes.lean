import Derived.Test.YtbmcgbmegcpgnaaGreatG19
import Derived.Test.YtbmcgbmegcpgnaaGreatVZDocF
import Derived.Test.YtbmcgbmegcpgnaaGreatG17
import Derived.Test.YtbmcgbmegcpgnaaGreatVQDup2
import Derived.Test.YtbmcgbmegcpgnaaGreatG5
set_option maxHeartbeats 16000000
set_option maxRecDepth 20000
set_option linter.unusedSimpArgs false
namespace Go.Proofs.YtbmcgbmegcpgnaaGreat
open Go.RowKit
theorem BoxAt.stay{T:TypeId}{w w':World}{b:Nat}{a:List Value}(h:BoxAt T w b a)(hb:Below w.heap.size w w'):BoxAt T w' b a:=(hb.block b h.lt).trans h
theorem BoxAt.seven{T:TypeId}{w:World}{b:Nat}{v0 v1 v2 v3 v4 v5 v6:Value}(h:BoxAt T w b [v0,v1,v2,v3,v4,v5,v6]):w.cell? ⟨b,0,none⟩=some v0/\w.cell? ⟨b,1,none⟩=some v1/\w.cell? ⟨b,2,none⟩=some v2/\w.cell? ⟨b,3,none⟩=some v3/\w.cell? ⟨b,4,none⟩=some v4/\w.cell? ⟨b,5,none⟩=some v5/\w.cell? ⟨b,6,none⟩=some v6:=
 ⟨h.cell (i:=0) rfl,h.cell (i:=1) rfl,h.cell (i:=2) rfl,h.cell (i:=3) rfl,h.cell (i:=4) rfl,h.cell (i:=5) rfl,h.cell (i:=6) rfl⟩
@[reducible] def NDd:PlanD:=⟨⟨none,0,0⟩,[],⟨none,0,0⟩,[],⟨none,0,0⟩,[],⟨none,0,0⟩,[],⟨none,0,0⟩,[],⟨none,0,0⟩,[],⟨none,0,0⟩,[]⟩
theorem zsy(w:World):NDd.lie w:=⟨⟨rfl,by simp⟩,zW _ _,⟨rfl,by simp⟩,⟨rfl,by simp⟩,⟨rfl,by simp⟩,⟨rfl,by simp⟩,zW _ _,zos _⟩
theorem zul:NDd.p.mid:=⟨zon _,zon _,zon _,zon _,zon _,zon _,zon _,by simp[PlanD.p],by simp[PlanD.p],by simp[PlanD.p],by simp[PlanD.p],by simp[PlanD.p],by simp[PlanD.p]⟩
def pOf(zs:List Int):PPlan:=match zps zs with
 |.error _=>NDd.p
 |.ok x=>zp0 x
def gOf(zs:List Int):Int × Int:=match zps zs with
 |.error e=>e
 |.ok _=>(0,0)
theorem zum(zs:List Int):(pOf zs).mid:=by
 unfold pOf;cases h:zps zs with
 |error e=>exact zul
 |ok x=>
  show(zp0 x).mid;unfold zps at h;split at h
  ·cases h
  ·rename_i hf
   have b:(zs.take (zs.length-4)).length<=8000:=by
    have:=(zrR (by simpa using hf)).2.2.1
    rw[List.length_take];omega
   cases a:zpq (zs.take (zs.length-4)) 3 with
   |error e=>rw[a]at h;cases h
   |ok y=>
    obtain⟨y,u⟩:=y;rw[a]at h;dsimp only at h;split at h
    ·cases h
    ·split at h
     ·cases h
     ·cases h
      exact zsC (zqY 8000 _ 3 _ u b a) (by decide)
def zsb(zs:List Int)(w:World)(e:Ending)(w':World):Prop:=∃d:PlanD,e=.returned (.tuple #[d.v,.agg #[.int .i64 (gOf zs).1,.int .i64 (gOf zs).2]])/\d.lie w'/\d.p=pOf zs/\Below w.heap.size w w'
theorem zuW{zs:List Int}{x:PlanX}(h:zq3 zs=some x):zps zs=.ok x:=by
 unfold zq3 at h;unfold zps;split at h
 ·cases h
 ·rename_i hf
  rw[if_neg hf];cases a:zpq (zs.take (zs.length-4)) 3 with
  |error e=>rw[a]at h;cases h
  |ok y=>
   obtain⟨y,u⟩:=y;rw[a]at h;dsimp only at h ⊢;split at h
   ·cases h
   ·rename_i hu
    rw[if_neg hu];split at h
    ·cases h
    ·rename_i hc
     rw[if_neg hc];cases h
     rfl
theorem ztA{zs:List Int}{w:World}{e:Ending}{w':World}(h:zpH zs w e w'):zsb zs w e w':=by
 obtain⟨hb,h⟩:=h;unfold zsb pOf gOf;cases a:zq3 zs with
 |none=>
  rw[a]at h;obtain⟨C,A,i,b,rfl⟩:=h;rw[b];exact⟨NDd,rfl,zsy _,rfl,hb⟩
 |some x=>
  rw[a]at h;obtain⟨v,g,rfl⟩:=h;obtain⟨d,rfl,f,_,c⟩:=zsu g;rw[zuW a];exact⟨d,rfl,f,c,hb⟩
theorem zun{zs:List Int}{w:World}{e:Ending}{w':World}(h:zq8 zs w e w'):zsb zs w e w':=by
 obtain⟨hb,h⟩:=h;unfold zsb pOf gOf;cases a:zps zs with
 |error y=>
  obtain⟨C,A⟩:=y;rw[a]at h;obtain rfl:=h;exact⟨NDd,rfl,zsy _,rfl,hb⟩
 |ok x=>
  rw[a]at h;obtain⟨d,b,c,rfl⟩:=h;exact⟨d,rfl,b,c,hb⟩
def zuX(p:PPlan)(L:List Int)(w:World)(e:Ending)(w':World):Prop:=∃a n c,e=.returned (.tuple #[.slice a n c,.agg #[.int .i64 (zD p).1,.int .i64 (zD p).2]])/\((zD p).1≠0->n=0)/\((zD p).1=0->Has .u8 w' a n L)/\Below w.heap.size w w'
theorem zuo{d:PlanD}{w:World}(a:d.lie w)(h:(zD d.p).1=0):(zD d.p).2=0:=by
 rcases zfa a (zO d.p) 7 (zos _) (fun j e=>absurd e (by omega))with⟨k,_,_,c,_⟩|⟨_,_,b⟩
 ·exact absurd h c
 ·exact b
theorem ztB{d:PlanD}{w:World}(c:d.lie w){e:Ending}{w':World}(h:zpY d w e w'):zuX d.p (zpJ d) w e w':=by
 rcases h with⟨a,rfl,hb⟩|⟨a,g,cap,rfl,b,hb⟩
 ·exact⟨none,0,0,rfl,fun _=>rfl,fun h=>absurd h a,hb⟩
 ·exact⟨some ⟨g,0,none⟩,_,cap,by rw[a,zuo c a],fun h=>absurd a h,fun _=>zeo b (zqI (zsA d)),hb⟩
theorem ztC{d:PlanD}{w:World}(l:d.lie w)(h:d.p.little):d.fits:=by
 have j:∀{α β :Type} {L:List α} {f: α->β} {x: α},x∈L->f x∈L.map f:=fun b=>zoJ.2 ⟨_,b,rfl⟩
 have a:∀{α :Type} {k:Nat} {P: α->World->Nat->Nat->Prop} {w:World} {s:QSl} {S:List α},QRow k P w s S->∀y∈S,∃g o,P y w g o:=fun h y n=>by
  obtain⟨i,hi,rfl⟩:=zoR n;obtain⟨g,off,_,c⟩:=h.2 i _ (zoh hi);exact⟨g,_,c⟩
 refine⟨⟨?_,fun x b=>?_⟩,?_,⟨?_,fun x b=>?_⟩,⟨?_,fun x b=>?_⟩,⟨?_,fun x b=>?_⟩,⟨?_,fun x b=>?_⟩,?_⟩
 ·have:=h.hs;simp[PlanD.p,l.hs.1]at this;omega
 ·obtain⟨g,o,c⟩:=a l.hs x b;have:x.ws.length<=500:=h.hw _ (j b);have e:=c.2.1;omega
 ·have:=h.ms;simp[PlanD.p,l.ms.1]at this;omega
 ·have:=h.ss;simp[PlanD.p,l.ss.1]at this;omega
 ·obtain⟨g,o,c⟩:=a l.ss x b;have:x.cs.length<=500:=h.sc _ (j b);have e:=c.2.2.2.2.2.1;omega
 ·have:=h.al;simp[PlanD.p,l.al.1]at this;omega
 ·obtain⟨g,o,c⟩:=a l.al x b;have m:=h.aw _ (j b);have t:x.ws.length<=500:=m.1;have r:(x.os.map OpD.p).length<=50:=m.2;rw[zoE]at r;have e:=c.2.2.1.1;have A:=c.2.2.2.1;refine⟨by omega,by omega,fun y n=>?_⟩
  obtain⟨B,C,q⟩:=a c.2.2.2 y n;have:y.es.length<=500:=h.ae _ (j b) _ (j n);have u:=q.2.2.2.2.2.1;omega
 ·have:=h.ts;simp[PlanD.p,l.ts.1]at this;omega
 ·obtain⟨g,o,c⟩:=a l.ts x b;have m:=h.tl _ (j b);have t:x.ks.length<=500:=m.1;have r:x.al.length<=500:=m.2.1;have D:x.zs.length<=500:=m.2.2;have e:=c.2.2.2.2.2.2.1.1;have A:=c.2.2.2.2.2.2.2.1.1;have u:=c.2.2.2.2.2.2.2.2.1;omega
 ·have:=h.ns;simp[PlanD.p,l.ns.1]at this;omega
 ·obtain⟨g,o,c⟩:=a l.ns x b;have:x.es.length<=500:=h.ne _ (j b);have e:=c.2.2.2.2.2.1;omega
 ·have:=h.os;simp[PlanD.p,l.os.1]at this;omega
theorem codecdoes_main(d:PlanD)(a:Option Addr)(n c:Nat)(zs:List Int)(w:World)(hl:d.lie w)(h0:d.nil0)(hz:Has .u8 w a n zs)(g6:a=none->n=0/\c=0)(g7:n<=c):Calls Tryz.prog 3 #[d.v,.slice a n c] w fun e w'=>e=.returned (.bool true)/\Below w.heap.size w w':=by
 obtain⟨W1,hW⟩:∃W1,W1=w.alloc (.cells #[.slice d.heads.a d.heads.n d.heads.c,.slice d.mta.a d.mta.n d.mta.c,.slice d.states.a d.states.n d.states.c,.slice d.acts.a d.acts.n d.acts.c,.slice d.tabs.a d.tabs.n d.tabs.c,.slice d.nodes.a d.nodes.n d.nodes.c,.slice d.out.a d.out.n d.out.c] 29):=⟨_,rfl⟩;obtain⟨s,hs⟩:∃s,s=w.heap.size:=⟨_,rfl⟩;have h5:Hid (BoxAt 29 W1 s [.slice d.heads.a d.heads.n d.heads.c,.slice d.mta.a d.mta.n d.mta.c,.slice d.states.a d.states.n d.states.c,.slice d.acts.a d.acts.n d.acts.c,.slice d.tabs.a d.tabs.n d.tabs.c,.slice d.nodes.a d.nodes.n d.nodes.c,.slice d.out.a d.out.n d.out.c]):=by rw[hW,hs];exact BoxAt.new _ _ _
 have j6:Hid (Below w.heap.size w W1):=by rw[hW];exact ze (zof _ _)
 have m:=hid hW;have ES:=hid hs;have HL:=hid hl;have H0:=hid h0;have HZ:=hid hz;have k2:=hid g6;have k3:=hid g7;have g5:=hid (zr1 W1);clear hW hs hl h0 hz g6 g7;go_enter Tryz.func3,Tryz.ntmps3
 go_wp2_with fail
 rw[<-m.out,<-ES.out];refine g5.out.mono ?_;rintro e w1 ⟨rfl,d4⟩;clear m ES g5;have d3:=hid (zh j6.out d4);have e7:=hid (h5.out.stay d4);obtain⟨z0,z1,z2,L,z4,U,z6⟩:=e7.out.seven;have g2:=hid (zf0 d w1 (HL.out.step d3.out));clear d4 j6 h5;go_wp2_with fail
 refine g2.out.mono ?_;rintro e w2 ⟨b,rfl,hg,e9⟩;have H:=hid (zh d3.out e9);have d7:=hid (e7.out.stay e9);have HG:=hid hg;clear e9 d3 g2 z0 z1 z2 L z4 U z6 hg e7;cases b with
 |true=>
  go_wp2;go_ret;exact⟨rfl,H.out⟩
 |false=>
  have J:=hid (HG.out rfl);clear HG;by_cases h9:(9000:Int)<(n:Int)
  ·go_wp2;go_ret;exact⟨rfl,H.out⟩
  have Q:Hid (n<=9000):=by show n<=9000;omega
  obtain⟨z0,z1,z2,L,z4,U,z6⟩:=d7.out.seven;have f3:=hid (zj7 d w2 (HL.out.step H.out) H0.out (ztC (HL.out.step H.out) J.out));go_wp2_with fail
  refine f3.out.mono ?_;rintro e w3 ⟨f,rfl,f5,-,i1,c7⟩;clear f3 z0 z1 z2 L z4 U z6;dsimp only[PlanD.v];obtain⟨W4,eW⟩:∃W,W=w3.alloc (.cells #[.slice f.heads.a f.heads.n f.heads.c,.slice f.mta.a f.mta.n f.mta.c,.slice f.states.a f.states.n f.states.c,.slice f.acts.a f.acts.n f.acts.c,.slice f.tabs.a f.tabs.n f.tabs.c,.slice f.nodes.a f.nodes.n f.nodes.c,.slice f.out.a f.out.n f.out.c] 29):=⟨_,rfl⟩;obtain⟨ob,eb⟩:∃b,b=w3.heap.size:=⟨_,rfl⟩;have b4:Below w3.heap.size w3 W4:=by rw[eW];exact ze (zof _ _)
  have O4:Hid (BoxAt 29 W4 ob [.slice f.heads.a f.heads.n f.heads.c,.slice f.mta.a f.mta.n f.mta.c,.slice f.states.a f.states.n f.states.c,.slice f.acts.a f.acts.n f.acts.c,.slice f.tabs.a f.tabs.n f.tabs.c,.slice f.nodes.a f.nodes.n f.nodes.c,.slice f.out.a f.out.n f.out.c]):=by rw[eW,eb];exact BoxAt.new _ _ _
  have f7:=hid ((d7.out.stay c7).stay b4);have e0:=hid (zh (zh H.out c7) b4);have d9:=hid (f5.step b4);have O:=hid i1;have m:=hid eW;have F:=hid eb;clear f5 i1 c7 b4 eW eb d7 H;go_upto_region 6 with fail
  rw[<-m.out,<-F.out];clear m F;have g8:=hid (HZ.out.step e0.out);go_upto_region 7 with(at_builtin;refine zs7 rfl _ _ rfl rfl _ _ _ zs rfl k2.out ?c1 ?c2 ?_)
  case c1=>exact g8.out
  case c2=>have:=Q.out;omega
  intro v6 w6 d0 I;obtain⟨a6,c6,rfl,f4⟩:=zaW d0 HZ.out.bytes;have b0:n<=c6:=by
   rcases d0.2 with⟨e,e2⟩|⟨g,cap,l2,e,_,_,h1,h2,_⟩
   ·omega
   ·simp only[zox]at e;rw[<-e.2.2]at h1;exact h1
  have i9:=hid b0;have a8:=hid f4;have k1:=hid (zh e0.out I);have g4:=hid (f7.out.stay I);have O6:=hid (O4.out.stay I);have a9:=hid (d9.out.step I);have k7:=hid (d9.out.step I);have T:Hid (Calls Tryz.prog 7 #[f.v] w6 (zuX f.p (zpJ f) w6)):=(zrk f w6 a9.out (by rw[O.out];exact J.out)).mono fun e w' h=>ztB a9.out h
  obtain⟨C,hC⟩:∃C,C=(zD d.p).1:=⟨_,rfl⟩;obtain⟨A,hA⟩:∃A,A=(zD d.p).2:=⟨_,rfl⟩;unfold zuX at T;rw[O.out,<-hC,<-hA]at T;have c9:Hid (C=(zD d.p).1/\A=(zD d.p).2):=⟨hC,hA⟩;dsimp only[PlanD.v]at T;obtain⟨z0,z1,z2,L,z4,U,z6⟩:=O6.out.seven;clear f4 b0 d0 I e0 f7 O4 d9 g8 hC hA;go_wp2_with fail
  refine T.out.mono ?_;rintro e w7 ⟨xa,xn,xc,rfl,f6,i6,h8⟩;clear T z0 z1 z2 L z4 U z6;obtain⟨W8,eW⟩:∃W,W=w7.alloc (.cells #[.int .i64 C,.int .i64 A] 35):=⟨_,rfl⟩;obtain⟨fb,eb⟩:∃b,b=w7.heap.size:=⟨_,rfl⟩;have b8:Below w7.heap.size w7 W8:=by rw[eW];exact ze (zof _ _)
  have F8:Hid (BoxAt 35 W8 fb [.int .i64 C,.int .i64 A]):=by rw[eW,eb];exact BoxAt.new _ _ _
  have R:=zh h8 b8;have e3:=hid (g4.out.stay R);have O8:=hid (O6.out.stay R);have c8:=hid (zh k1.out R);have i0:=hid f6;have i8:Hid (C=0->Has .u8 W8 xa xn (zpJ f)):=fun h=>(i6 h).step b8
  have f9:=hid R;have m:=hid eW;have F:=hid eb;have e6:Hid (Calls Tryz.prog 8 #[d.v] W8 fun e w'=>e=.returned (.agg #[.int .i64 C,.int .i64 A])/\Below W8.heap.size W8 w'):=(zj8 d W8 (HL.out.step c8.out) J.out).mono fun e w' ⟨C',A',k6,he,hb⟩=>by
   obtain⟨rfl,rfl⟩:=zkv (HL.out.step c8.out) k6;rw[c9.out.1,c9.out.2];exact⟨he,hb⟩
  dsimp only[PlanD.v]at e6;obtain⟨z0,z1,z2,L,z4,U,z6⟩:=e3.out.seven;clear f6 i6 h8 b8 R eW eb g4 O6;go_upto_region 8 with fail
  rw[<-m.out,<-F.out];clear m F;go_wp2_with fail
  refine e6.out.mono ?_;rintro e w9 ⟨rfl,i2⟩;clear e6 z0 z1 z2 L z4 U z6;obtain⟨W10,eW⟩:∃W,W=w9.alloc (.cells #[.int .i64 C,.int .i64 A] 35):=⟨_,rfl⟩;obtain⟨wb,eb⟩:∃b,b=w9.heap.size:=⟨_,rfl⟩;have u:Below W8.heap.size W8 W10:=by rw[eW];exact ze i2
  have j4:Hid (BoxAt 35 W10 wb [.int .i64 C,.int .i64 A]):=by rw[eW,eb];exact BoxAt.new _ _ _
  have g3:=hid (F8.out.stay u);have c5:=hid (e3.out.stay u);have i7:=hid (O8.out.stay u);have b6:=hid (zh c8.out u);have Y:=hid (zh f9.out u);have c3:=hid u;have m:=hid eW;have F:=hid eb;obtain⟨G,hG⟩:∃G,G=(gOf zs).1:=⟨_,rfl⟩;obtain⟨K,hK⟩:∃K,K=(gOf zs).2:=⟨_,rfl⟩;have a7:Hid (Calls Tryz.prog 9 #[.slice a6 n c6] W10 (zsb zs W10)):=(zr9 a6 n c6 zs W10 (by have:=Q.out;omega) i9.out (a8.out.step Y.out)).mono fun e w' h=>ztA h
  have a3:Hid (∀w',Below W10.heap.size W10 w'->Calls Tryz.prog 10 #[.slice a n c] w' (zsb zs w')):=fun w' hb=>(zux a n c zs w' (by have:=Q.out;omega) k3.out (HZ.out.step (zh b6.out hb))).mono fun e w' h=>zun h
  unfold zsb at a7 a3;rw[<-hG,<-hK]at a7 a3;clear i2 u eW eb e3 O8 F8 hG hK f9;go_upto_region 9 with fail
  rw[<-m.out,<-F.out];clear m F;go_wp2_with fail
  refine a7.out.mono ?_;rintro e x ⟨q,rfl,ql,qp,b2⟩;dsimp only[PlanD.v];clear a7;obtain⟨W12,eW⟩:∃W,W=(x.alloc (.cells #[.slice q.heads.a q.heads.n q.heads.c,.slice q.mta.a q.mta.n q.mta.c,.slice q.states.a q.states.n q.states.c,.slice q.acts.a q.acts.n q.acts.c,.slice q.tabs.a q.tabs.n q.tabs.c,.slice q.nodes.a q.nodes.n q.nodes.c,.slice q.out.a q.out.n q.out.c] 29)).alloc (.cells #[.int .i64 G,.int .i64 K] 35):=⟨_,rfl⟩;obtain⟨qb,eq⟩:∃b,b=x.heap.size:=⟨_,rfl⟩;obtain⟨gb,eg⟩:∃b,b=x.heap.size+1:=⟨_,rfl⟩;have M:Below x.heap.size x W12:=by rw[eW];exact ze (ze (zof _ _))
  have o:=zh b2 M;have h3:Hid (BoxAt 29 W12 qb [.slice q.heads.a q.heads.n q.heads.c,.slice q.mta.a q.mta.n q.mta.c,.slice q.states.a q.states.n q.states.c,.slice q.acts.a q.acts.n q.acts.c,.slice q.tabs.a q.tabs.n q.tabs.c,.slice q.nodes.a q.nodes.n q.nodes.c,.slice q.out.a q.out.n q.out.c]):=by rw[eW,eq];exact(BoxAt.new _ _ _).stay (ze (zof _ _))
  have i3:Hid (BoxAt 35 W12 gb [.int .i64 G,.int .i64 K]):=by rw[eW,eg,show x.heap.size+1=(x.alloc (.cells #[.slice q.heads.a q.heads.n q.heads.c,.slice q.mta.a q.mta.n q.mta.c,.slice q.states.a q.states.n q.states.c,.slice q.acts.a q.acts.n q.acts.c,.slice q.tabs.a q.tabs.n q.tabs.c,.slice q.nodes.a q.nodes.n q.nodes.c,.slice q.out.a q.out.n q.out.c] 29)).heap.size by simp];exact BoxAt.new _ _ _
  have i5:=hid (j4.out.stay o);have f8:=hid (g3.out.stay o);have b1:=hid (c5.out.stay o);have j5:=hid (i7.out.stay o);have j3:=hid (zh b6.out o);have Z:=hid o;have QL:=hid (ql.step M);have QP:=hid qp;have m:=hid eW;have F:=hid eq;have EG:=hid eg;have b9:=hid (a3.out W12 o);clear ql qp b2 o M eW eq eg j4 g3 c5 i7 a3;go_upto_region 10 with fail
  rw[<-m.out,<-EG.out,<-F.out];clear m F EG;go_wp2_with fail
  refine b9.out.mono ?_;rintro e t ⟨r,rfl,rl,rp,b7⟩;dsimp only[PlanD.v];clear b9;obtain⟨W14,eW⟩:∃W,W=(t.alloc (.cells #[.slice r.heads.a r.heads.n r.heads.c,.slice r.mta.a r.mta.n r.mta.c,.slice r.states.a r.states.n r.states.c,.slice r.acts.a r.acts.n r.acts.c,.slice r.tabs.a r.tabs.n r.tabs.c,.slice r.nodes.a r.nodes.n r.nodes.c,.slice r.out.a r.out.n r.out.c] 29)).alloc (.cells #[.int .i64 G,.int .i64 K] 35):=⟨_,rfl⟩;obtain⟨rb,eq⟩:∃b,b=t.heap.size:=⟨_,rfl⟩;obtain⟨hb,eg⟩:∃b,b=t.heap.size+1:=⟨_,rfl⟩;have a0:Below t.heap.size t W14:=by rw[eW];exact ze (ze (zof _ _))
  have j:=zh b7 a0;have j1:BoxAt 29 W14 rb [.slice r.heads.a r.heads.n r.heads.c,.slice r.mta.a r.mta.n r.mta.c,.slice r.states.a r.states.n r.states.c,.slice r.acts.a r.acts.n r.acts.c,.slice r.tabs.a r.tabs.n r.tabs.c,.slice r.nodes.a r.nodes.n r.nodes.c,.slice r.out.a r.out.n r.out.c]:=by rw[eW,eq];exact(BoxAt.new _ _ _).stay (ze (zof _ _))
  have e4:BoxAt 35 W14 hb [.int .i64 G,.int .i64 K]:=by rw[eW,eg,show t.heap.size+1=(t.alloc (.cells #[.slice r.heads.a r.heads.n r.heads.c,.slice r.mta.a r.mta.n r.mta.c,.slice r.states.a r.states.n r.states.c,.slice r.acts.a r.acts.n r.acts.c,.slice r.tabs.a r.tabs.n r.tabs.c,.slice r.nodes.a r.nodes.n r.nodes.c,.slice r.out.a r.out.n r.out.c] 29)).heap.size by simp];exact BoxAt.new _ _ _
  have h7:=h3.out.stay j;have e8:=i3.out.stay j;have a4:=hid (i5.out.stay j);have d8:=f8.out.stay j;have N:=hid (b1.out.stay j);have j0:=hid (j5.out.stay j);have k:=hid (zh j3.out j);have y:=zh Z.out j;have B:=zh Y.out y;have c0:=hid (zh c3.out y);have b3:=rl.step a0;have c4:=QL.out.step j;have d2:Hid (∀w',Below W14.heap.size W14 w'->Calls Tryz.prog 11 #[q.v,r.v,.bool false] w' (Yes w')):=fun w' h=>zqw false q r w' (c4.step h) (b3.step h) (by rw[QP.out,rp];exact zqK _ _) (by rw[QP.out];exact zum zs)
  have e1:Hid (∀w',Below W14.heap.size W14 w'->Calls Tryz.prog 11 #[f.v,d.v,.bool false] w' (Yes w')):=fun w' h=>zrB false f d w' (a9.out.step (zh B h)) (HL.out.step (zh k.out h)) (by rw[O.out];exact zqK _ _) (by rw[O.out];exact J.out)
  have a5:Hid (∀w',Below W14.heap.size W14 w'->Calls Tryz.prog 12 #[.slice a6 n c6,.slice a n c] w' fun e a1=>e=.returned (.bool true)/\a1=w'):=fun w' h=>zgf c6 c (a8.out.step (zh B h)) (HZ.out.step (zh k.out h))
  have h6:Hid (∀w',Below W14.heap.size W14 w'->Calls Tryz.prog 13 #[.slice a6 n c6] w' fun e a1=>e=.returned (.int .u32 (Mth.crc zs))/\a1=w'):=fun w' h=>zrI a6 n c6 zs w' (by have:=Q.out;omega) (a8.out.step (zh B h))
  have g9:Hid (∀w',Below W14.heap.size W14 w'->Calls Tryz.prog 14 #[.slice a n c] w' fun e a1=>e=.returned (.int .u32 (Mth.crc zs))/\a1=w'):=fun w' h=>zuS a n c zs w' (by have:=Q.out;omega) (HZ.out.step (zh k.out h))
  generalize Mth.crc zs=S at*;dsimp only[PlanD.v]at d2 e1;obtain⟨q0,q1,q2,q3,q4,q5,q6⟩:=h7.seven;obtain⟨r0,r1,r2,r3,r4,r5,r6⟩:=j1.seven;have f0:=d8.cell (i:=0) rfl;have f1:=d8.cell (i:=1) rfl;have u0:=a4.out.cell (i:=0) rfl;have u1:=a4.out.cell (i:=1) rfl;have g0:=e8.cell (i:=0) rfl;have g1:=e8.cell (i:=1) rfl;have v0:=e4.cell (i:=0) rfl;have v1:=e4.cell (i:=1) rfl;have m:=hid eW;have F:=hid eq;have EG:=hid eg;clear rl rp b7 j a0 eW eq eg i5 f8 b1 j5 h3 i3 j1 e4 h7 e8 d8 y B b3 c4 Z Y c3 QL QP a9 a8;go_upto_region 11 with fail
  rw[<-m.out,<-EG.out,<-F.out];clear m F EG;go_wp2_with fail
  refine(d2.out _ (zof _ _)).mono ?_;rintro e l1 ⟨rfl,D⟩;obtain⟨o0,o1,o2,o3,o4,o5,o6⟩:=(j0.out.stay D).seven;obtain⟨z0,z1,z2,L,z4,U,z6⟩:=(N.out.stay D).seven;have d5:=hid D;clear d2 q0 q1 q2 q3 q4 q5 q6 r0 r1 r2 r3 r4 r5 r6 f0 f1 u0 u1 g0 g1 v0 v1 D;go_wp2_with fail
  refine(e1.out _ d5.out).mono ?_;rintro e a2 ⟨rfl,b5⟩;have l:=hid (zh d5.out b5);clear e1 o0 o1 o2 o3 o4 o5 o6 z0 z1 z2 L z4 U z6 b5 j0 d5;go_wp2_with fail
  refine(a5.out _ l.out).mono ?_;rintro e P ⟨rfl,X⟩;obtain rfl:a2=P:=X.symm;go_wp2_with fail
  refine(h6.out _ l.out).mono ?_;rintro e P ⟨rfl,X⟩;obtain rfl:a2=P:=X.symm;go_wp2_with fail
  refine(g9.out _ l.out).mono ?_;rintro e P ⟨rfl,X⟩;obtain rfl:a2=P:=X.symm;clear a5 h6 g9;have d6:=a4.out.stay l.out;have u0:=d6.cell (i:=0) rfl;have u1:=d6.cell (i:=1) rfl;obtain⟨z0,z1,z2,L,z4,U,z6⟩:=(N.out.stay l.out).seven;have E:=hid (zh k.out l.out);by_cases hc:C=0
  ·have j2:=(i8.out hc).step (zh c0.out l.out);have i4:(zD d.p).1=0:=by rw[<-c9.out.1];exact hc
   have e5:=hid (zuV d a2 (HL.out.step E.out) J.out i4);dsimp only[PlanD.v]at e5;have HX:=hid j2;subst hc;clear d6 a4 N c0 l i8 i0 j2 i4 k;go_wp2_with fail
   refine e5.out.mono ?_;rintro e j7 ⟨pa,pc,rfl,f2,-,V⟩;have hL:zpJ f=zpJ d:=by unfold zpJ zpo;rw[zss k7.out,zss (HL.out.step E.out),O.out]
   have hp:=f2.has (zsA d);have hx:=HX.out.step V;rw[hL]at hx;have k5:xn=(zpJ d).length:=hx.1.symm;subst k5;have a5:=hid (zgf xc pc hx hp);have h4:=hid (zh E.out V);clear f2 V hp hx e5 HX hL z0 z1 z2 L z4 U z6 u0 u1;go_wp2_with fail
   refine a5.out.mono ?_;rintro e k4 ⟨rfl,k0⟩;obtain rfl:j7=k4:=k0.symm;go_wp2;go_ret;exact⟨rfl,h4.out⟩
  ·have l0:(C !=0)=true:=by simpa using hc
   have k8:(C==0)=false:=by simpa using hc
   obtain rfl:=i0.out hc;go_wp2;go_ret;exact⟨rfl,E.out⟩
end Go.Proofs.YtbmcgbmegcpgnaaGreat
