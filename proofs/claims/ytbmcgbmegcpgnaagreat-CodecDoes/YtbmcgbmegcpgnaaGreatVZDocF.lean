import Derived.Test.YtbmcgbmegcpgnaaGreatG7
import Derived.Test.YtbmcgbmegcpgnaaGreatG18
import Derived.Deep.CutBlock
import Derived.Deep.CutRange
import Derived.Deep.DeepCutAuto
import Derived.Deep.RegionHeld3
set_option maxHeartbeats 32000000
set_option maxRecDepth 20000
set_option linter.unusedSimpArgs false
namespace Go.Proofs.YtbmcgbmegcpgnaaGreat
open Go.RowKit
theorem ztx(wr:World)(x y:Int)(a:wfI x)(c:wfI y){b:Nat}(hb:b=wr.heap.size):Calls Tryz.prog 41 #[.slice (some ⟨b,0,none⟩) 2 2] (wr.alloc (.cells #[.int .i64 x,.int .i64 y] 3)) (BIs (zk x++zk y) (wr.alloc (.cells #[.int .i64 x,.int .i64 y] 3))):=by
 subst hb;have:=zqm (some ⟨wr.heap.size,0,none⟩) 2 2 [x,y] _ (zqP wr x y a c) (by omega)
 rwa[show[x,y].flatMap zk=zk x++zk y by simp]at this
theorem zty(x:OpD):Mth.Byt (opL x):=by
 unfold opL;refine xf (yv _) ?_;(repeat' split)<;>first
  |exact xf (xf (yv _) (yv _)) (zp7 _)
  |exact yv _
  |exact zp7 _
  |exact xf (xf (yv _) (yv _)) (yv _)
  |(intro y a;cases a)
theorem zqg(l:List Int):Mth.Byt (xr l):=xf (yv _) (zo3 (fun _=>yv _) _)
theorem ztz(d:PlanD):Mth.Byt (zpo d):=by
 have cs:∀x:CaseD,Mth.Byt (zpe x):=fun x=>xf (yv _) (xf (yv _) (yv _))
 have b:∀x:RefD,Mth.Byt (zoZ x):=fun x=>xf (yv _) (yv _)
 have st:∀x:StateD,Mth.Byt (kg x):=fun x=>xf (xf (yv _) (yv _)) (xf (by split<;>first|exact b _|(intro y a;cases a)) (xf (zo3 cs _) (yv _)))
 have e:∀x:ActD,Mth.Byt (zpr x):=fun x=>xf (zqg _) (xf (yv _) (zo3 zty _))
 have f:∀x:TabD,Mth.Byt (zpB x):=fun x=>xf (yv _) (xf (xf (yv _) (zo3 b _)) (xf (zqg _) (xf (xf (yv _) (yv _)) (xf (yv _) (zo3 (fun _=>yv _) _)))))
 have c:∀x:NodeD,Mth.Byt (zpg x):=fun x=>xf (xf (yv _) (yv _)) (by
  split
  ·exact xf (zp7 _) (yv _)
  ·split
   ·exact xf (yv _) (yv _)
   ·exact yv _)
 refine xf (fun y a=>?_) (xf (xf (yv _) (zo3 (fun x=>zqg _) _)) (xf (zqg _) (xf (xf (yv _) (zo3 st _)) (xf (xf (yv _) (zo3 e _)) (xf (xf (yv _) (zo3 f _)) (xf (xf (yv _) (zo3 c _)) (zqg _)))))))
 simp only[zoD,zoA,or_false]at a;rcases a with rfl|rfl|rfl<;>decide
theorem zsN{w:World}{b:Nat}{x y z:Int}{T:TypeId}{f:Nat × Nat}(h:w.heap[b]?=some (.cells #[.int .i64 x,.int .i64 y,.int .i64 z] T f))(c:wfI x)(d:wfI y)(hz:wfI z):Has .i64 w (some ⟨b,0,none⟩) 3 [x,y,z]:=by
 refine⟨rfl,fun n a=>?_,.inr ⟨b,0,rfl,(zoj.1 h).1,fun i hi=>?_⟩⟩
 ·simp only[zoD,zoA,or_false]at a;rcases a with rfl|rfl|rfl
  ·exact c
  ·exact d
  ·exact hz
 ·match i,hi with
  |0,_=>simp[World.cell?,h]
  |1,_=>simp[World.cell?,h]
  |2,_=>simp[World.cell?,h]
theorem zsO(w:World)(x y:Int)(b:(Lit.int .u64 x).wf=true)(c:(Lit.int .u64 y).wf=true):Has .u64 (w.alloc (.cells #[.int .u64 x,.int .u64 y] 96)) (some ⟨w.heap.size,0,none⟩) 2 [x,y]:=by
 refine⟨rfl,fun n a=>?_,.inr ⟨w.heap.size,0,rfl,by simp,fun i hi=>?_⟩⟩
 ·simp only[zoD,zoA,or_false]at a;rcases a with rfl|rfl
  ·exact b
  ·exact c
 ·match i,hi with
  |0,_=>simp
  |1,_=>simp
theorem OwB.four{B:Nat}{a:Option Addr}{n c:Nat}{bs:List Int}{w:World}(h:OwB B a n c bs w)(d g b f:Int)(u:0<=d/\d<256)(A:0<=g/\g<256)(x:0<=b/\b<256)(s:0<=f/\f<256)(hs:n+4<=9000000)(r:B<=w.heap.size):
 ∃l m k,(Builtin.append_ #[30,30] 30 #[.slice a n c,.slice (some ⟨w.heap.size,0,none⟩) 4 4]).run Tryz.prog (w.alloc (.cells #[.int .u8 d,.int .u8 g,.int .u8 b,.int .u8 f] 5))=.ok (.slice l (n+4) m) k/\OwB B l (n+4) m (bs++[d,g,b,f]) k/\Below B w k:=by
 have o:Below w.heap.size w (w.alloc (.cells #[.int .u8 d,.int .u8 g,.int .u8 b,.int .u8 f] 5)):=ze (zof _ _);have hz:Has .u8 (w.alloc (.cells #[.int .u8 d,.int .u8 g,.int .u8 b,.int .u8 f] 5)) (some ⟨w.heap.size,0,none⟩) 4 [d,g,b,f]:=by
  refine⟨rfl,fun y q=>?_,.inr ⟨w.heap.size,0,rfl,by simp,fun i hi=>?_⟩⟩
  ·simp only[zoD,zoA,or_false]at q;rcases q with rfl|rfl|rfl|rfl
   ·exact zi6 _ u
   ·exact zi6 _ A
   ·exact zi6 _ x
   ·exact zi6 _ s
  ·match i,hi with
   |0,_=>simp
   |1,_=>simp
   |2,_=>simp
   |3,_=>simp
 obtain⟨l,m,k,j,t,hb⟩:=(h.step o).more (c2:=4) hz (fun e=>by cases e) hs (zoz r o.size)
 exact⟨l,m,k,j,t,(o.mono r).trans hb⟩
theorem zuV(d:PlanD)(w:World)(hl:d.lie w)(hm:d.p.little)(o1:(zD d.p).1=0):Calls Tryz.prog 15 #[d.v] w (BIs (zpJ d) w):=by
 obtain⟨G,hW⟩:∃G,G=w.alloc (.cells #[.slice d.heads.a d.heads.n d.heads.c,.slice d.mta.a d.mta.n d.mta.c,.slice d.states.a d.states.n d.states.c,.slice d.acts.a d.acts.n d.acts.c,.slice d.tabs.a d.tabs.n d.tabs.c,.slice d.nodes.a d.nodes.n d.nodes.c,.slice d.out.a d.out.n d.out.c] 29):=⟨_,rfl⟩;obtain⟨pb,epb⟩:∃b,b=w.heap.size:=⟨_,rfl⟩;obtain⟨W2,hW2⟩:∃W2,W2=G.alloc (.cells #[.int .u8 83,.int .u8 89,.int .u8 1] 5):=⟨_,rfl⟩;obtain⟨gb,egb⟩:∃b,b=w.heap.size+1:=⟨_,rfl⟩;have K2:G.heap.size=w.heap.size+1:=by rw[hW];simp
 have b1:Below w.heap.size w G:=by rw[hW];exact ze (zof _ _)
 have b2:Below G.heap.size G W2:=by rw[hW2];exact ze (zof _ _)
 have hc:∀(o:Nat) (v:Value),(#[.slice d.heads.a d.heads.n d.heads.c,.slice d.mta.a d.mta.n d.mta.c,.slice d.states.a d.states.n d.states.c,.slice d.acts.a d.acts.n d.acts.c,.slice d.tabs.a d.tabs.n d.tabs.c,.slice d.nodes.a d.nodes.n d.nodes.c,.slice d.out.a d.out.n d.out.c]:Array Value)[o]?=some v->G.cell? ⟨pb,o,none⟩=some v:=fun o v hv=>by rw[hW,epb];exact(zod _ _ _ _ rfl).trans hv
 have g4:Hid (∀w',Below G.heap.size G w'->w'.cell? ⟨pb,0,none⟩=some (.slice d.heads.a d.heads.n d.heads.c)/\w'.cell? ⟨pb,1,none⟩=some (.slice d.mta.a d.mta.n d.mta.c)/\w'.cell? ⟨pb,2,none⟩=some (.slice d.states.a d.states.n d.states.c)/\w'.cell? ⟨pb,3,none⟩=some (.slice d.acts.a d.acts.n d.acts.c)/\w'.cell? ⟨pb,4,none⟩=some (.slice d.tabs.a d.tabs.n d.tabs.c)/\w'.cell? ⟨pb,5,none⟩=some (.slice d.nodes.a d.nodes.n d.nodes.c)/\w'.cell? ⟨pb,6,none⟩=some (.slice d.out.a d.out.n d.out.c)):=fun w' hb=>⟨za (hc 0 _ rfl) hb,za (hc 1 _ rfl) hb,za (hc 2 _ rfl) hb,za (hc 3 _ rfl) hb,za (hc 4 _ rfl) hb,za (hc 5 _ rfl) hb,za (hc 6 _ rfl) hb⟩
 have M:Hid (∀w',Below G.heap.size G w'->d.lie w'):=fun w' hb=>hl.step (zh b1 hb)
 have C1:Hid (RowB G.heap.size (.slice (some ⟨gb,0,none⟩) 3 3) [83,89,1] W2):=.inr ⟨gb,#[.int .u8 83,.int .u8 89,.int .u8 1],(0,0),rfl,by omega,by rw[hW2,egb,<-K2];show(G.heap.push _)[G.heap.size]?=_;rw[Array.getElem?_push_size],rfl,by simp⟩
 have F:Hid (d.heads.n<=6/\d.states.n<=8/\d.acts.n<=8/\d.tabs.n<=5/\d.nodes.n<=10):=by
  have n0:(d.p.hs.length:Int)<=6:=(zB o1 0 (by decide)).2.1
  have n2:(d.p.ss.length:Int)<=8:=(zB o1 2 (by decide)).2.1
  have n3:(d.p.al.length:Int)<=8:=(zB o1 3 (by decide)).2.1
  have n4:(d.p.ts.length:Int)<=5:=(zB o1 4 (by decide)).2.1
  have n5:(d.p.ns.length:Int)<=10:=(zB o1 5 (by decide)).2.1
  simp only[PlanD.p,zoE]at n0 n2 n3 n4 n5;have e0:=hl.hs.1;have e2:=hl.ss.1;have e3:=hl.al.1;have e4:=hl.ts.1;have e5:=hl.ns.1;exact⟨by omega,by omega,by omega,by omega,by omega⟩
 have O:Hid (d.hs.length=d.heads.n/\d.ss.length=d.states.n/\d.al.length=d.acts.n/\d.ts.length=d.tabs.n/\d.ns.length=d.nodes.n):=⟨hl.hs.1,hl.ss.1,hl.al.1,hl.ts.1,hl.ns.1⟩;have r8:=hid hl;have HM:=hid hm;have E7:=hid b1;have A6:=hid b2;have EW:Hid (W2=(w.alloc (.cells #[.slice d.heads.a d.heads.n d.heads.c,.slice d.mta.a d.mta.n d.mta.c,.slice d.states.a d.states.n d.states.c,.slice d.acts.a d.acts.n d.acts.c,.slice d.tabs.a d.tabs.n d.tabs.c,.slice d.nodes.a d.nodes.n d.nodes.c,.slice d.out.a d.out.n d.out.c] 29)).alloc (.cells #[.int .u8 83,.int .u8 89,.int .u8 1] 5)):=by show W2=_;rw[hW2,hW]
 have EP:=hid epb;have EG:=hid egb;have N8:=hid (zpt (d.heads.n:Int) W2 (zbF (by have:=F.out.1;omega)))
 have A9:=hid (And.intro (zqO (d.heads.n:Int)) (kd (zbF (by have:=F.out.1;omega):wfI (d.heads.n:Int))))
 obtain⟨p0,p1,p2,p3,p4,p5,p6⟩:=g4.out W2 b2;have T:pb<W2.heap.size:=zog _ _ p0;dsimp only[PlanD.v];clear hW epb hW2 egb K2 b1 b2 hc hl hm o1;go_enter Tryz.func15,Tryz.ntmps15
 go_upto_region 2 with fail
 rw[<-EW.out,<-EG.out,<-EP.out];clear EW EP EG;go_wp2_with fail
 refine N8.out.mono ?_;rintro e v1 ⟨a1,c1,rfl,B,C,t⟩;obtain⟨a,c,w1,j,ho,hb⟩:=RowB.put (C1.out.step t) rfl (B.has (k9 _)) (c2:=c1) A9.out.1 (by have:=A9.out.2;show 3+_<=_;omega) (zoz A6.out.size t.size)
 have I:Hid (Cat G a (3+(zk (d.heads.n:Int)).length) c ([83,89,1]++zk (d.heads.n:Int)) w1):=⟨ho,(A6.out.trans (t.mono A6.out.size)).trans hb⟩;clear p0 p1 p2 p3 p4 p5 p6 T;obtain⟨p0,p1,p2,p3,p4,p5,p6⟩:=g4.out w1 I.out.2;have T:pb<w1.heap.size:=zog _ _ p0;generalize(zk (d.heads.n:Int)).length=k0 at*;have Q:Hid (0<3+k0/\3+k0<=13):=by have:=A9.out;show _/\_;omega
 generalize 3+k0=l0 at*;clear ho hb B C t N8 A9 C1 A6;go_wp2_with (first|fail|(at_builtin;refine yg rfl _ _ rfl rfl rfl j ?_))
 clear j p0 p1 p2 p3 p4 p5 p6 T;go_loopw [3,4] (fun v q wr=>∃(i l:Nat) (a:Option Addr) (c:Nat),i<=d.heads.n/\q=.int .i64 i/\v=.slice a l c/\Hid (Cat G a l c (([83,89,1]++zk (d.heads.n:Int))++(d.hs.take i).flatMap zo8) wr)/\Hid (0<l/\l<=13+i*5010)) (fun _ q _=>d.heads.n-(intOf q).toNat)
 case atStart=>exact⟨0,l0,a,c,zon _,rfl,rfl,by simpa using I,by have:=Q.out;show _/\_;omega⟩
 case round=>
  clear I Q;obtain⟨i,l,a,c,hi,rfl,rfl,I,Q⟩:=hrel;obtain⟨p0,p1,p2,p3,p4,p5,p6⟩:=g4.out wr I.out.2;have T:pb<wr.heap.size:=zog _ _ p0;by_cases f7:i<d.heads.n
  ·have d8:(i:Int)<(d.heads.n:Int):=by omega
   as_aux_lemma=>
    have hx:d.hs[i]?=some (d.hs[i]'(by have:=O.out.1;omega)):=zoh _
    obtain⟨g,off,ea,⟨q0,O7⟩,hh⟩:=(M.out wr I.out.2).hs.2 i _ hx;have FT:=hid (qz (f:=zo8) hx);have b6:(d.hs[i]'(by have:=O.out.1;omega)).ws.length<=500:=HM.out.hw _ (zoJ.2 ⟨_,zol hx,rfl⟩)
    generalize d.hs[i]'(by have:=O.out.1;omega)=x at*
    rw[Nat.mul_one]at q0;rw[ea]at p0;have O4:=hh.1;have P:=hid (zqz x.w.a x.w.n x.w.c x.ws wr hh (by omega))
    have s:=hid (zpx hh.2.1 b6 (by decide))
    have u:Hid (Mth.Byt (xr x.ws)):=xf (yv _) (zo3 (fun y=>yv _) _)
    have e6:g<wr.heap.size:=zog _ _ q0;clear hx O7 hh b6 O4;rw[ea];go_wp2_with fail
    refine P.out.mono ?_;rintro e v2 ⟨a2,c2,rfl,B,C,t⟩;obtain⟨a3,c3,w3,j,f8,-⟩:=Cat.put I.out B C t u.out (by have:=s.out;have:=Q.out;have:=F.out.1;omega)
    have RN:Hid (Cat G a3 (l+(xr x.ws).length) c3 (([83,89,1]++zk (d.heads.n:Int))++(d.hs.take (i+1)).flatMap zo8) w3):=by
     show Cat _ _ _ _ _ _;rw[FT.out,<-List.append_assoc];exact f8
    have RB:Hid (0<l+(xr x.ws).length/\l+(xr x.ws).length<=13+(i+1)*5010):=by have:=s.out;have:=Q.out;show _/\_;omega
    generalize(xr x.ws).length=k1 at*;clear B C t f8 I Q P s u FT p0 p1 p2 p3 p4 p5 p6 q0 T e6;have b8:=F.out.1;go_wp2_with (first|fail|(at_builtin;refine yg rfl _ _ rfl rfl rfl j ?_))
    go_roundw
    case rel=>exact⟨i+1,_,a3,c3,by omega,by go_num,rfl,RN,RB⟩
    case measure=>simp[intOf];omega
  ·have d8:¬(i:Int)<(d.heads.n:Int):=by omega
   have I0:Hid (Cat G a l c (([83,89,1]++zk (d.heads.n:Int))++d.hs.flatMap zo8) wr):=by
    have h:=I.out;rw[List.take_of_length_le (by have:=O.out.1;omega)]at h
    exact h
   have L4:Hid (0<l/\l<=30073):=by have:=Q.out;have:=F.out.1;show _/\_;omega
   clear I Q hi f7;have P:=hid (zqz d.mta.a d.mta.n d.mta.c d.ms wr (M.out wr I0.out.2).ms (by have:=HM.out.ms;have:=r8.out.ms.1;simp only[PlanD.p]at*;omega))
   have s:=hid (zpx r8.out.ms.2.1 HM.out.ms (by decide))
   have u:Hid (Mth.Byt (xr d.ms)):=xf (yv _) (zo3 (fun y=>yv _) _)
   go_wp2_with (fail)
   refine P.out.mono ?_;rintro e S1 ⟨U6,S5,rfl,B,C,t⟩;have N:=s.out;have J:=L4.out;obtain⟨V6,P8,w6,j,A,D⟩:=Cat.put I0.out B C t u.out (by omega)
   have x4:=hid A;have H1:Hid (0<l+(xr d.ms).length/\l+(xr d.ms).length<=35083):=by show _/\_;omega
   generalize(xr d.ms).length=k101 at*;clear B C t A P s u N J D I0 L4 d8;clear p0 p1 p2 p3 p4 p5 p6 T;obtain⟨p0,p1,p2,p3,p4,p5,p6⟩:=g4.out w6 x4.out.2;have T:pb<w6.heap.size:=zog _ _ p0;have P:=hid (zpt (d.states.n:Int) w6 (zbF (by have:=F.out.2.1;omega)))
   have s:=hid ((kd (zbF (by have:=F.out.2.1;omega):wfI (d.states.n:Int))))
   have u:Hid (Mth.Byt (zk (d.states.n:Int))):=k9 _;go_wp2_with (first|fail|(at_builtin;refine yg rfl _ _ rfl rfl rfl j ?_))
   refine P.out.mono ?_;rintro e P9 ⟨Q1,S7,rfl,B,C,t⟩;have N:=s.out;have J:=H1.out;obtain⟨N5,J1,U1,j,A,D⟩:=Cat.put x4.out B C t u.out (by omega)
   have F5:=hid A;have G4:Hid (0<(l+k101)+(zk (d.states.n:Int)).length/\(l+k101)+(zk (d.states.n:Int)).length<=35093):=by show _/\_;omega
   generalize(zk (d.states.n:Int)).length=k102 at*;clear B C t A P s u N J D;clear p0 p1 p2 p3 p4 p5 p6 T;go_wp2_with (first|fail|(at_builtin;refine yg rfl _ _ rfl rfl rfl j ?_))
   clear j;go_loopw [3,5] (fun v q wr=>∃(i l:Nat) (a:Option Addr) (c:Nat),i<=d.states.n/\q=.int .i64 i/\v=.slice a l c/\Hid (Cat G a l c ((((([83,89,1]++zk (d.heads.n:Int))++d.hs.flatMap zo8)++xr d.ms)++zk (d.states.n:Int))++(d.ss.take i).flatMap kg) wr)/\Hid (0<l/\l<=35093+i*15100)) (fun _ q _=>d.states.n-(intOf q).toNat)
   case atStart=>exact⟨0,_,N5,J1,zon _,rfl,rfl,by simpa using F5,by have:=G4.out;show _/\_;omega⟩
   case round=>
    obtain⟨i,l,a,c,hi,rfl,rfl,I,Q⟩:=hrel;obtain⟨p0,p1,p2,p3,p4,p5,p6⟩:=g4.out wr I.out.2;have T:pb<wr.heap.size:=zog _ _ p0;have b8:=F.out.2.1;by_cases f7:i<d.states.n
    ·have d8:(i:Int)<(d.states.n:Int):=by omega
     as_aux_lemma=>
      have hx:d.ss[i]?=some (d.ss[i]'(by have:=O.out.2.1;omega)):=zoh _
      obtain⟨g,off,ea,⟨q0,v0⟩,⟨q1,v1⟩,⟨q2,v2⟩,⟨q3,I8⟩,⟨q4,v4⟩,l2⟩:=(M.out wr I.out.2).ss.2 i _ hx;have FT:=hid (qz (f:=kg) hx);have b6:(d.ss[i]'(by have:=O.out.2.1;omega)).cs.length<=500:=HM.out.sc _ (zoJ.2 ⟨_,zol hx,rfl⟩)
      generalize d.ss[i]'(by have:=O.out.2.1;omega)=x at*
      have Y:=hid hx;have M8:=hid b6;have g6:=hid l2.1;have q9:x.cases.n<=500:=by have:=l2.1;omega
      have E:Hid (wfI x.head/\wfI x.r.h/\wfI x.r.f/\wfI x.els):=⟨v0,v1,v2,v4⟩;have M7:=hid (zrw (x:=x) ⟨⟨q0,v0⟩,⟨q1,v1⟩,⟨q2,v2⟩,⟨q3,I8⟩,⟨q4,v4⟩,l2⟩ b6);rw[ea]at p2;obtain⟨W3,e3⟩:∃W3,W3=wr.alloc (.cells #[.int .i64 x.head,.int .i64 x.r.h,.int .i64 x.r.f,.slice x.cases.a x.cases.n x.cases.c,.int .i64 x.els] 51):=⟨_,rfl⟩;obtain⟨xb,exb⟩:∃b,b=wr.heap.size:=⟨_,rfl⟩;obtain⟨tb,etb⟩:∃b,b=wr.heap.size+1:=⟨_,rfl⟩;have b3:Below wr.heap.size wr W3:=by rw[e3];exact ze (zof _ _)
      have f0:W3.heap[xb]?=some (.cells #[.int .i64 x.head,.int .i64 x.r.h,.int .i64 x.r.f,.slice x.cases.a x.cases.n x.cases.c,.int .i64 x.els] 51 (0,0)):=by rw[e3,exb];show(wr.heap.push _)[wr.heap.size]?=_;rw[Array.getElem?_push_size]
      have Z:Hid (∀w',NB W3 w'->w'.cell? ⟨xb,0,none⟩=some (.int .i64 x.head)/\w'.cell? ⟨xb,1,none⟩=some (.int .i64 x.r.h)/\w'.cell? ⟨xb,2,none⟩=some (.int .i64 x.r.f)/\w'.cell? ⟨xb,3,none⟩=some (.slice x.cases.a x.cases.n x.cases.c)/\w'.cell? ⟨xb,4,none⟩=some (.int .i64 x.els)):=fun w' hb=>by
       have h:=hb.2 _ _ _ _ (by decide) f0
       simp[World.cell?,h]
      have f8:=hid (I.out.step b3);have j0:tb=W3.heap.size:=by rw[etb,e3];simp
      have P:=hid (ztx W3 x.head (x.cases.n:Int) v0 (zbF (by omega)) j0)
      obtain⟨W4,e4⟩:∃W4,W4=W3.alloc (.cells #[.int .i64 x.head,.int .i64 (x.cases.n:Int)] 3):=⟨_,rfl⟩;rw[<-e4]at P;have b4:Below W3.heap.size W3 W4:=by rw[e4];exact ze (zof _ _)
      have k6:=hid (f8.out.step b4);have f1:=hid (ky b4);have EW:Hid (W4=(wr.alloc (.cells #[.int .i64 x.head,.int .i64 x.r.h,.int .i64 x.r.f,.slice x.cases.a x.cases.n x.cases.c,.int .i64 x.els] 51)).alloc (.cells #[.int .i64 x.head,.int .i64 (x.cases.n:Int)] 3)):=by show W4=_;rw[e4,e3]
      have EX:=hid exb;have ET:=hid etb;have s:Hid ((zk x.head++zk (x.cases.n:Int)).length<=20):=by show _<=_;rw[List.length_append];have:=kd v0;have:=kd (zbF (by omega):wfI (x.cases.n:Int));omega
      have e6:g<wr.heap.size:=zog _ _ q0;clear hx I8 l2 b6 v0 v1 v2 v4 e3 exb etb b3 b4 f0 j0 e4;rw[ea];go_wp2_with fail
      rw[<-EW.out,<-ET.out,<-EX.out];clear EW ET EX q0 q1 q2 q3 q4 p0 p1 p2 p3 p4 p5 p6 T e6;refine P.out.mono ?_;rintro e v ⟨bb,dd,rfl,B,C,t⟩;have u:Hid (Mth.Byt (zk x.head++zk (x.cases.n:Int))):=xf (k9 _) (k9 _);have N:=s.out;have J:=Q.out;obtain⟨M2,J7,g7,j,A,D⟩:=Cat.put k6.out B C t u.out (by omega)
      have z9:=hid A;have w4:Hid (0<l+(zk x.head++zk (x.cases.n:Int)).length/\l+(zk x.head++zk (x.cases.n:Int)).length<=35113+i*15100):=by show _/\_;omega
      have h7:=hid (f1.out.trans D);generalize(zk x.head++zk (x.cases.n:Int)).length=k103 at*;clear B C t A D P s u N J I f8 k6 f1 Q;obtain⟨y0,y1,y2,y3,y4⟩:=Z.out g7 h7.out;have H:xb<g7.heap.size:=zog _ _ y0;by_cases hz:x.cases.n=0
      ·have P1:¬(0:Int)<(x.cases.n:Int):=by omega
       go_wp2_with (first|fail|(at_builtin;refine yg rfl _ _ rfl rfl rfl j ?_))
       clear j y0 y1 y2 y3 y4 H;go_loopw [3,7] (fun v q wr=>∃(k l:Nat) (a:Option Addr) (c:Nat),k<=x.cases.n/\q=.int .i64 k/\v=.slice a l c/\Hid (Cat G a l c ((((((([83,89,1]++zk (d.heads.n:Int))++d.hs.flatMap zo8)++xr d.ms)++zk (d.states.n:Int))++(d.ss.take i).flatMap kg)++(zk x.head++zk (x.cases.n:Int)))++(x.cs.take k).flatMap zpe) wr)/\Hid (NB W3 wr)/\Hid (0<l/\l<=35113+i*15100+k*30)) (fun _ q _=>x.cases.n-(intOf q).toNat)
       case atStart=>exact⟨0,_,M2,J7,zon _,rfl,rfl,by simpa using z9,h7,by have:=w4.out;show _/\_;omega⟩
       case round=>
        obtain⟨k,l,a,c,hk,rfl,rfl,I,d2,Q⟩:=hrel;obtain⟨y0,y1,y2,y3,y4⟩:=Z.out wr d2.out;have H:xb<wr.heap.size:=zog _ _ y0;by_cases o7:k<x.cases.n
        ·omega
        ·have l7:¬(k:Int)<(x.cases.n:Int):=by omega
         have j4:Hid (Cat G a l c ((((((([83,89,1]++zk (d.heads.n:Int))++d.hs.flatMap zo8)++xr d.ms)++zk (d.states.n:Int))++(d.ss.take i).flatMap kg)++(zk x.head++zk (x.cases.n:Int)))++x.cs.flatMap zpe) wr):=by
          have h:=I.out;rw[List.take_of_length_le (l:=x.cs) (i:=k) (by have:=g6.out;omega)]at h
          exact h
         have d5:Hid (0<l/\l<=50113+i*15100):=by have:=Q.out;show _/\_;omega
         clear I Q;have P:=hid (zpt x.els wr E.out.2.2.2);have s:=hid (kd E.out.2.2.2);have u:Hid (Mth.Byt (zk x.els)):=k9 _;go_wp2_with (fail)
         refine P.out.mono ?_;rintro e U8 ⟨T4,Q0,rfl,B,C,t⟩;have N:=s.out;have J:=d5.out;obtain⟨C4,B4,K5,j,A,D⟩:=Cat.put j4.out B C t u.out (by omega)
         have H4:=hid A;have F1:Hid (0<l+(zk x.els).length/\l+(zk x.els).length<=50123+i*15100):=by show _/\_;omega
         have O2:=hid (d2.out.trans D);generalize(zk x.els).length=k104 at*;clear B C t A P s u N J y0 y1 y2 y3 y4 H D;have RN:Hid (Cat G C4 (l+k104) B4 ((((([83,89,1]++zk (d.heads.n:Int))++d.hs.flatMap zo8)++xr d.ms)++zk (d.states.n:Int))++(d.ss.take (i+1)).flatMap kg) K5):=by
          show Cat _ _ _ _ _ _;rw[FT.out,show kg x=_ from by unfold kg;rw[if_pos hz]]
          simpa[List.append_assoc,zoZ]using H4.out
         have RB:Hid (0<(l+k104)/\(l+k104)<=35093+(i+1)*15100):=by have:=F1.out;show _/\_;omega
         clear j4 d5 d2 Y M8 g6 E M7 Z FT;go_wp2_with (first|fail|(at_builtin;refine yg rfl _ _ rfl rfl rfl j ?_))
         go_roundw
         case rel=>exact⟨i+1,_,C4,B4,by omega,by go_num,rfl,RN,RB⟩
         case measure=>simp[intOf];omega
      ·have P1:(0:Int)<(x.cases.n:Int):=by omega
       obtain⟨V5,e5⟩:∃V,V=g7.alloc (.cells #[.int .i64 x.r.h,.int .i64 x.r.f] 3):=⟨_,rfl⟩;have b5:Below g7.heap.size g7 V5:=by rw[e5];exact ze (zof _ _)
       have l4:=ztx g7 x.r.h x.r.f E.out.2.1 E.out.2.2.1 rfl;rw[<-e5]at l4;have k7:=hid (z9.out.step b5);have i9:=hid (h7.out.trans (ky b5));have E5:=hid e5;clear e5 b5;have P:=hid (l4);have s:=hid (show(zk x.r.h++zk x.r.f).length<=20 by rw[List.length_append];have:=kd E.out.2.1;have:=kd E.out.2.2.1;omega)
       have u:Hid (Mth.Byt (zk x.r.h++zk x.r.f)):=xf (k9 _) (k9 _);go_wp2_with (first|fail|(at_builtin;refine yg rfl _ _ rfl rfl rfl j ?_))
       rw[<-E5.out];refine P.out.mono ?_;rintro e U9 ⟨Q2,S8,rfl,B,C,t⟩;have N:=s.out;have J:=w4.out;obtain⟨L1,M6,D4,j,A,D⟩:=Cat.put k7.out B C t u.out (by omega)
       have F2:=hid A;have G2:Hid (0<(l+k103)+(zk x.r.h++zk x.r.f).length/\(l+k103)+(zk x.r.h++zk x.r.f).length<=35133+i*15100):=by show _/\_;omega
       have n9:=hid (i9.out.trans D);generalize(zk x.r.h++zk x.r.f).length=k105 at*;clear B C t A P s u N J k7 i9 E5 y0 y1 y2 y3 y4 H l4 D;obtain⟨y0,y1,y2,y3,y4⟩:=Z.out D4 n9.out;have H:xb<D4.heap.size:=zog _ _ y0;go_wp2_with (first|fail|(at_builtin;refine yg rfl _ _ rfl rfl rfl j ?_))
       clear j y0 y1 y2 y3 y4 H;go_loopw [3,7] (fun v q wr=>∃(k l:Nat) (a:Option Addr) (c:Nat),k<=x.cases.n/\q=.int .i64 k/\v=.slice a l c/\Hid (Cat G a l c (((((((([83,89,1]++zk (d.heads.n:Int))++d.hs.flatMap zo8)++xr d.ms)++zk (d.states.n:Int))++(d.ss.take i).flatMap kg)++(zk x.head++zk (x.cases.n:Int)))++zk x.r.h++zk x.r.f)++(x.cs.take k).flatMap zpe) wr)/\Hid (NB W3 wr)/\Hid (0<l/\l<=35133+i*15100+k*30)) (fun _ q _=>x.cases.n-(intOf q).toNat)
       case atStart=>exact⟨0,_,L1,M6,zon _,rfl,rfl,by simpa using F2,n9,by have:=G2.out;show _/\_;omega⟩
       case round=>
        obtain⟨k,l,a,c,hk,rfl,rfl,I,d2,Q⟩:=hrel;obtain⟨y0,y1,y2,y3,y4⟩:=Z.out wr d2.out;have H:xb<wr.heap.size:=zog _ _ y0;by_cases o7:k<x.cases.n
        ·have l7:(k:Int)<(x.cases.n:Int):=by omega
         have b7:x.cs[k]?=some (x.cs[k]'(by have:=g6.out;omega)):=zoh _
         obtain⟨_,_,_,_,_,_,_,_,l2⟩:=(M.out wr I.out.2).ss.2 i x Y.out;obtain⟨g2,R,f2,⟨r0,u0⟩,⟨r1,u1⟩,⟨r2,u2⟩⟩:=l2.2 k _ b7;have k4:=hid (qz (f:=zpe) b7);generalize x.cs[k]'(by have:=g6.out;omega)=y at*
         rw[f2]at y3;have HS:Hid (∀w',NB W3 w'->Below G.heap.size G w'->w'.cell? ⟨xb,3,none⟩=some (.slice (some ⟨g2,R,none⟩) x.cases.n x.cases.c)/\w'.cell? ⟨g2,R+k*3,none⟩=some (.int .u64 y.value)/\w'.cell? ⟨g2,R+k*3+1,none⟩=some (.int .u64 y.mask)/\w'.cell? ⟨g2,R+k*3+2,none⟩=some (.int .i64 y.to)):=fun w' B C=>by
          obtain⟨_,_,_,_,_,_,_,_,I5⟩:=(M.out w' C).ss.2 i x Y.out;obtain⟨g',v7,f3,⟨G0,-⟩,⟨E3,-⟩,⟨O6,-⟩⟩:=I5.2 k y b7;rw[f2]at f3;simp only[zoo,Addr.mk.injEq,and_true]at f3;obtain⟨rfl,rfl⟩:=f3;have t:=(Z.out w' B).2.2.2.1;rw[f2]at t;exact⟨t,G0,E3,O6⟩
         have P4:=bounds_u64 u0;have P0:=bounds_u64 u1;obtain⟨V,eV⟩:∃V,V=wr.alloc (.cells #[.int .u64 y.value,.int .u64 y.mask] 96):=⟨_,rfl⟩;have bV:Below wr.heap.size wr V:=by rw[eV];exact ze (zof _ _)
         have y6:Has .u64 V (some ⟨wr.heap.size,0,none⟩) 2 [y.value,y.mask]:=by rw[eV];exact zsO wr _ _ u0 u1
         have HZ:Hid (∀w',Below V.heap.size V w'->Calls Tryz.prog 42 #[.slice (some ⟨wr.heap.size,0,none⟩) 2 2] w' (BIs (y8 y.value.toNat++y8 y.mask.toNat) w')):=fun w' hb=>by
          have:=zsw (some ⟨wr.heap.size,0,none⟩) 2 2 [y.value,y.mask] w' (y6.step hb) (by omega)
          rwa[show[y.value,y.mask].flatMap (fun z:Int=>y8 z.toNat)=y8 y.value.toNat++y8 y.mask.toNat by simp]at this
         have K9:=hid (fun w'=>zpt y.to w' u2)
         have a0:Hid (Below V.heap.size V V.drew):=(zof _ _).drew;have d3:=hid ((I.out.step bV).step a0.out);have l6:=hid (d2.out.trans ((ky bV).trans (ky a0.out)));have HP:=hid (And.intro (zpm (n:=y.value.toNat) (by omega)) (And.intro (zpm (n:=y.mask.toNat) (by omega)) (kd u2)))
         have l9:Hid ((y8 y.value.toNat++y8 y.mask.toNat).length<=20):=by show _<=_;rw[List.length_append];have:=HP.out;omega
         have EV:=hid eV;have t4:Hid (Mth.Byt (y8 y.value.toNat++y8 y.mask.toNat)):=xf (yv _) (yv _);have i3:g2<wr.heap.size:=zog _ _ r0;have W5:=hid b7;clear b7 l2 u0 u1 u2 bV y6 eV P4 P0 I f2;go_wp2_with fail
         go_region_held3 (fun w'=>w'.cell? ⟨xb,3,none⟩=some (.slice (some ⟨g2,R,none⟩) x.cases.n x.cases.c)/\w'.cell? ⟨g2,R+k*3,none⟩=some (.int .u64 y.value)/\w'.cell? ⟨g2,R+k*3+1,none⟩=some (.int .u64 y.mask)/\w'.cell? ⟨g2,R+k*3+2,none⟩=some (.int .i64 y.to))
          (first|(go_split_ands;first|exact⟨by assumption,by assumption,by assumption,by assumption⟩)|go_keep)
          (first
           |(go_at_call 42;rw[<-EV.out];refine(HZ.out _ a0.out).mono ?_;rintro e v4 ⟨a4,c4,rfl,B,C,t⟩;obtain⟨a5,c5,w5,w8,K3,N1⟩:=Cat.put d3.out B C t t4.out (by have:=l9.out;have:=Q.out;omega);have X:=hid K3;have c8:=hid (l6.out.trans N1);obtain⟨s0,s1,s2,s3⟩:=HS.out v4 (l6.out.trans (ky t)) (d3.out.2.trans (t.mono d3.out.2.size));obtain⟨t0,t1,t2,t3⟩:=HS.out w5 c8.out X.out.2)
           |(refine zac rfl _ _ rfl (by simp[Act.eval]) (by simp[Act.eval]) w8 ?_)
           |(go_at_call 39;refine(K9.out _).mono ?_;rintro e v6 ⟨a6,c6,rfl,j1,j2,j3⟩;obtain⟨a7,c7,w7,r6,A4,E2⟩:=Cat.put X.out j1 j2 j3 (k9 _) (by have:=l9.out;have:=HP.out;have:=Q.out;omega);obtain⟨x0,x1,x2,x3⟩:=HS.out v6 (c8.out.trans (ky j3)) (X.out.2.trans (j3.mono X.out.2.size));obtain⟨z0,z1,z2,z3⟩:=HS.out w7 (c8.out.trans E2) A4.2)
           |(refine zac rfl _ _ rfl (by simp[Act.eval]) (by simp[Act.eval]) r6 ?_))
         all_goals
          rw[List.length_append]at A4;have RN:Hid (Cat G a7 (l+((y8 y.value.toNat).length+(y8 y.mask.toNat).length)+(zk y.to).length) c7 (((((((([83,89,1]++zk (d.heads.n:Int))++d.hs.flatMap zo8)++xr d.ms)++zk (d.states.n:Int))++(d.ss.take i).flatMap kg)++(zk x.head++zk (x.cases.n:Int)))++zk x.r.h++zk x.r.f)++(x.cs.take (k+1)).flatMap zpe) w7):=by
           show Cat _ _ _ _ _ _;rw[k4.out,show zpe y=y8 y.value.toNat++(y8 y.mask.toNat++zk y.to)from rfl]
           simpa[List.append_assoc]using A4
          have RB:Hid (0<l+((y8 y.value.toNat).length+(y8 y.mask.toNat).length)+(zk y.to).length/\l+((y8 y.value.toNat).length+(y8 y.mask.toNat).length)+(zk y.to).length<=35133+i*15100+(k+1)*30):=by have:=HP.out;have:=Q.out;show _/\_;omega
          have E9:=hid (c8.out.trans E2);generalize(y8 y.value.toNat).length=m1 at*;generalize(y8 y.mask.toNat).length=m3 at*;generalize(zk y.to).length=m2 at*;clear A4 E2 c8 X K3 N1 l6 d3 HZ K9 a0 HP l9 EV t4 HS Q d2 k4 w8 r6 B C t j1 j2 j3 s0 s1 s2 s3 t0 t1 t2 t3 x0 x1 x2 x3 z0 z1 z2 z3 y0 y1 y2 y3 y4 r0 r1 r2 i3 H;go_wp2;go_roundw
          case rel=>exact⟨k+1,_,a7,c7,by omega,by go_num,rfl,RN,E9,RB⟩
          case measure=>simp[intOf];omega
        ·have l7:¬(k:Int)<(x.cases.n:Int):=by omega
         have j4:Hid (Cat G a l c (((((((([83,89,1]++zk (d.heads.n:Int))++d.hs.flatMap zo8)++xr d.ms)++zk (d.states.n:Int))++(d.ss.take i).flatMap kg)++(zk x.head++zk (x.cases.n:Int)))++zk x.r.h++zk x.r.f)++x.cs.flatMap zpe) wr):=by
          have h:=I.out;rw[List.take_of_length_le (l:=x.cs) (i:=k) (by have:=g6.out;omega)]at h
          exact h
         have d5:Hid (0<l/\l<=50133+i*15100):=by have:=Q.out;show _/\_;omega
         clear I Q;have P:=hid (zpt x.els wr E.out.2.2.2);have s:=hid (kd E.out.2.2.2);have u:Hid (Mth.Byt (zk x.els)):=k9 _;go_wp2_with (fail)
         refine P.out.mono ?_;rintro e T6 ⟨U7,V9,rfl,B,C,t⟩;have N:=s.out;have J:=d5.out;obtain⟨D6,C6,L8,j,A,D⟩:=Cat.put j4.out B C t u.out (by omega)
         have G8:=hid A;have I3:Hid (0<l+(zk x.els).length/\l+(zk x.els).length<=50143+i*15100):=by show _/\_;omega
         have O3:=hid (d2.out.trans D);generalize(zk x.els).length=k106 at*;clear B C t A P s u N J y0 y1 y2 y3 y4 H D;have RN:Hid (Cat G D6 (l+k106) C6 ((((([83,89,1]++zk (d.heads.n:Int))++d.hs.flatMap zo8)++xr d.ms)++zk (d.states.n:Int))++(d.ss.take (i+1)).flatMap kg) L8):=by
          show Cat _ _ _ _ _ _;rw[FT.out,show kg x=_ from by unfold kg;rw[if_neg hz]]
          simpa[List.append_assoc,zoZ]using G8.out
         have RB:Hid (0<(l+k106)/\(l+k106)<=35093+(i+1)*15100):=by have:=I3.out;show _/\_;omega
         clear j4 d5 d2 Y M8 g6 E M7 Z FT;go_wp2_with (first|fail|(at_builtin;refine yg rfl _ _ rfl rfl rfl j ?_))
         go_roundw
         case rel=>exact⟨i+1,_,D6,C6,by omega,by go_num,rfl,RN,RB⟩
         case measure=>simp[intOf];omega
    ·have d8:¬(i:Int)<(d.states.n:Int):=by omega
     have f4:Hid (Cat G a l c ((((([83,89,1]++zk (d.heads.n:Int))++d.hs.flatMap zo8)++xr d.ms)++zk (d.states.n:Int))++d.ss.flatMap kg) wr):=by
      have h:=I.out;rw[List.take_of_length_le (by have:=O.out.2.1;omega)]at h
      exact h
     have g0:Hid (0<l/\l<=155893):=by have:=Q.out;have:=F.out.2.1;show _/\_;omega
     clear I Q hi f7 b8;have P:=hid (zpt (d.acts.n:Int) wr (zbF (by have:=F.out.2.2.1;omega)))
     have s:=hid ((kd (zbF (by have:=F.out.2.2.1;omega):wfI (d.acts.n:Int))))
     have u:Hid (Mth.Byt (zk (d.acts.n:Int))):=k9 _;go_wp2_with (fail)
     refine P.out.mono ?_;rintro e P5 ⟨V7,T1,rfl,B,C,t⟩;have N:=s.out;have J:=g0.out;obtain⟨K0,N4,U5,j,A,D⟩:=Cat.put f4.out B C t u.out (by omega)
     have v9:=hid A;have z6:Hid (0<l+(zk (d.acts.n:Int)).length/\l+(zk (d.acts.n:Int)).length<=155903):=by show _/\_;omega
     generalize(zk (d.acts.n:Int)).length=k107 at*;clear B C t A P s u N J D f4 g0;clear p0 p1 p2 p3 p4 p5 p6 T d8;go_wp2_with (first|fail|(at_builtin;refine yg rfl _ _ rfl rfl rfl j ?_))
     clear j;go_loopw [3,8] (fun v q wr=>∃(i l:Nat) (a:Option Addr) (c:Nat),i<=d.acts.n/\q=.int .i64 i/\v=.slice a l c/\Hid (Cat G a l c ((((((([83,89,1]++zk (d.heads.n:Int))++d.hs.flatMap zo8)++xr d.ms)++zk (d.states.n:Int))++d.ss.flatMap kg)++zk (d.acts.n:Int))++(d.al.take i).flatMap zpr) wr)/\Hid (0<l/\l<=155903+i*770000)) (fun _ q _=>d.acts.n-(intOf q).toNat)
     case atStart=>exact⟨0,_,K0,N4,zon _,rfl,rfl,by simpa using v9,by have:=z6.out;show _/\_;omega⟩
     case round=>
      clear v9 z6;obtain⟨i,l,a,c,hi,rfl,rfl,I,Q⟩:=hrel;obtain⟨p0,p1,p2,p3,p4,p5,p6⟩:=g4.out wr I.out.2;have T:pb<wr.heap.size:=zog _ _ p0;have b8:=F.out.2.2.1;by_cases f7:i<d.acts.n
      ·have d8:(i:Int)<(d.acts.n:Int):=by omega
       as_aux_lemma=>
        have hx:d.al[i]?=some (d.al[i]'(by have:=O.out.2.2.1;omega)):=zoh _
        obtain⟨g,off,ea,⟨q0,m0⟩,⟨q1,m1⟩,E8,o2⟩:=(M.out wr I.out.2).al.2 i _ hx;have FT:=hid (qz (f:=zpr) hx);have g5:=HM.out.aw _ (zoJ.2 ⟨_,zol hx,rfl⟩);have B3:=HM.out.ae _ (zoJ.2 ⟨_,zol hx,rfl⟩);generalize d.al[i]'(by have:=O.out.2.2.1;omega)=x at*
        have b6:x.ws.length<=500/\x.os.length<=50:=⟨g5.1,by have:=g5.2;simpa[ActD.p]using this⟩
        have J0:Hid (∀y∈x.os,y.es.length<=500):=fun y hy=>B3 (OpD.p y) (zoJ.2 ⟨y,hy,rfl⟩)
        have Y:=hid hx;have z8:=hid o2.1;have W0:x.ops.n<=50:=by have:=o2.1;omega
        have W6:x.w.n<=500:=by have:=E8.1;omega
        have HS:Hid (∀w',Below G.heap.size G w'->w'.cell? ⟨pb,3,none⟩=some (.slice (some ⟨g,off,none⟩) d.acts.n d.acts.c)/\w'.cell? ⟨g,off+i*2,none⟩=some (.slice x.w.a x.w.n x.w.c)/\w'.cell? ⟨g,off+i*2+1,none⟩=some (.slice x.ops.a x.ops.n x.ops.c)):=fun w' hb=>by
         obtain⟨g',v7,f3,⟨O9,-⟩,⟨O5,-⟩,-,-⟩:=(M.out w' hb).al.2 i x Y.out;rw[ea]at f3;simp only[zoo,Addr.mk.injEq,and_true]at f3;obtain⟨rfl,rfl⟩:=f3;obtain⟨-,-,-,t,-,-,-⟩:=g4.out w' hb;rw[ea]at t;exact⟨t,O9,O5⟩
        have a0:Hid (Below wr.heap.size wr wr.drew):=(zof _ _).drew;have d3:=hid (I.out.step a0.out);have h5:Hid (∀w',Below G.heap.size G w'->Calls Tryz.prog 40 #[.slice x.w.a x.w.n x.w.c] w' (BIs (xr x.ws) w')):=fun w' hb=>by
         obtain⟨g',v7,f3,-,-,M0,-⟩:=(M.out w' hb).al.2 i x Y.out;exact zqz x.w.a x.w.n x.w.c x.ws w' M0 (by omega)
        have l3:Hid (Mth.Byt (xr x.ws)):=xf (yv _) (zo3 (fun y=>yv _) _)
        have a8:Hid ((xr x.ws).length<=5010):=zpx E8.2.1 b6.1 (by decide)
        have d6:Hid ((zk (x.ops.n:Int)).length<=10):=kd (zbF (by omega))
        have v8:=hid (fun w'=>zpt (x.ops.n:Int) w' (zbF (by omega)))
        have e6:g<wr.heap.size:=zog _ _ q0;rw[ea]at p3;clear g5 B3 hx E8 o2 b6 m0 m1 I;rw[ea];clear ea;go_wp2_with fail
        go_region_held3 (fun w'=>w'.cell? ⟨pb,3,none⟩=some (.slice (some ⟨g,off,none⟩) d.acts.n d.acts.c)/\w'.cell? ⟨g,off+i*2,none⟩=some (.slice x.w.a x.w.n x.w.c)/\w'.cell? ⟨g,off+i*2+1,none⟩=some (.slice x.ops.a x.ops.n x.ops.c))
         (first|(go_split_ands;first|exact⟨by assumption,by assumption,by assumption⟩)|go_keep)
         (first
          |(go_at_call 40;refine(h5.out _ d3.out.2).mono ?_;rintro e K1 ⟨R7,P7,rfl,B,C,t⟩;obtain⟨V8,R1,L0,j5,n8,A3⟩:=Cat.put d3.out B C t l3.out (by have:=a8.out;have:=Q.out;omega);have f5:=hid n8;obtain⟨s2010,s2011,s2012⟩:=HS.out K1 (d3.out.2.trans (t.mono d3.out.2.size));obtain⟨G1,I4,H6⟩:=HS.out L0 f5.out.2)
          |(have hR:=j5;clear j5;refine zac rfl _ _ rfl (by simp[Act.eval]) (by simp[Act.eval]) hR ?_;clear hR)
          |(go_at_call 39;refine(v8.out _).mono ?_;rintro e N3 ⟨U4,Q7,rfl,B,C,t⟩;obtain⟨B7,D5,i5,i8,i2,A8⟩:=Cat.put f5.out B C t (k9 _) (by have:=a8.out;have:=d6.out;have:=Q.out;omega);have t8:=hid i2;obtain⟨s2020,s2021,s2022⟩:=HS.out N3 (f5.out.2.trans (t.mono f5.out.2.size));obtain⟨H2,I1,F4⟩:=HS.out i5 t8.out.2)
          |(have hR:=i8;clear i8;refine zac rfl _ _ rfl (by simp[Act.eval]) (by simp[Act.eval]) hR ?_;clear hR))
        have G5:Hid (Cat G B7 (l+(xr x.ws).length+(zk (x.ops.n:Int)).length) D5 ((((((((([83,89,1]++zk (d.heads.n:Int))++d.hs.flatMap zo8)++xr d.ms)++zk (d.states.n:Int))++d.ss.flatMap kg)++zk (d.acts.n:Int))++(d.al.take i).flatMap zpr)++xr x.ws)++zk (x.ops.n:Int)) i5):=i2;have l1:Hid (0<l+(xr x.ws).length+(zk (x.ops.n:Int)).length/\l+(xr x.ws).length+(zk (x.ops.n:Int)).length<=160923+i*770000):=by have:=a8.out;have:=d6.out;have:=Q.out;show _/\_;omega
        generalize(xr x.ws).length=k201 at*;generalize(zk (x.ops.n:Int)).length=k202 at*;clear n8 A3 f5 i2 A8 t8 B C t h5 l3 a8 d6 v8 d3 a0 Q s2010 s2011 s2012 G1 I4 H6 s2020 s2021 s2022 H2 I1 F4 p0 p1 p2 p3 p4 p5 p6 T e6 q0 q1;obtain⟨p3,q0,q1⟩:=HS.out i5 G5.out.2;have T:pb<i5.heap.size:=zog _ _ p3;have e6:g<i5.heap.size:=zog _ _ q0;go_wp2;clear p3 q0 q1 T e6;go_loopw [3,9] (fun v q wr=>∃(k l:Nat) (a:Option Addr) (c:Nat),k<=x.ops.n/\q=.int .i64 k/\v=.slice a l c/\Hid (Cat G a l c (((((((((([83,89,1]++zk (d.heads.n:Int))++d.hs.flatMap zo8)++xr d.ms)++zk (d.states.n:Int))++d.ss.flatMap kg)++zk (d.acts.n:Int))++(d.al.take i).flatMap zpr)++xr x.ws)++zk (x.ops.n:Int))++(x.os.take k).flatMap opL) wr)/\Hid (0<l/\l<=160923+i*770000+k*15100)) (fun _ q _=>x.ops.n-(intOf q).toNat)
        case atStart=>exact⟨0,_,B7,D5,zon _,rfl,rfl,by simpa using G5,by have:=l1.out;show _/\_;omega⟩
        case round=>
         clear G5 l1;obtain⟨k,l,a,c,hk,rfl,rfl,I,Q⟩:=hrel;obtain⟨p3,q0,q1⟩:=HS.out wr I.out.2;have T:pb<wr.heap.size:=zog _ _ p3;have e6:g<wr.heap.size:=zog _ _ q0;by_cases o7:k<x.ops.n
         ·have l7:(k:Int)<(x.ops.n:Int):=by omega
          have b7:x.os[k]?=some (x.os[k]'(by have:=z8.out;omega)):=zoh _
          obtain⟨_,_,_,_,_,_,o2⟩:=(M.out wr I.out.2).al.2 i x Y.out;obtain⟨g2,R,f2,⟨r0,u0⟩,⟨r1,u1⟩,⟨r2,u2⟩,⟨r3,u3⟩,⟨r4,u4⟩,i7⟩:=o2.2 k _ b7;have k4:=hid (qz (f:=opL) b7);have J9:=J0.out _ (zol b7);have N9:(opL (x.os[k]'(by have:=z8.out;omega))).length<=15100:=ztO ⟨⟨r0,u0⟩,⟨r1,u1⟩,⟨r2,u2⟩,⟨r3,u3⟩,⟨r4,u4⟩,i7⟩ J9
          generalize x.os[k]'(by have:=z8.out;omega)=y at*
          have P:=hid (zve y wr i7 ⟨u0,u1,u2,u3⟩ (by have:=i7.1;omega))
          have s:=hid N9;have u:=hid (zty y);have i3:g2<wr.heap.size:=zog _ _ r0;rw[f2]at q1;clear b7 o2 J9 N9 u0 u1 u2 u3 u4 i7 f2;go_wp2_with fail
          refine P.out.mono ?_;rintro e v4 ⟨a4,c4,rfl,B,C,t⟩;obtain⟨a5,c5,w5,j,k7,-⟩:=Cat.put I.out B C t u.out (by have:=s.out;have:=Q.out;have:=b8;omega)
          have RN:Hid (Cat G a5 (l+(opL y).length) c5 (((((((((([83,89,1]++zk (d.heads.n:Int))++d.hs.flatMap zo8)++xr d.ms)++zk (d.states.n:Int))++d.ss.flatMap kg)++zk (d.acts.n:Int))++(d.al.take i).flatMap zpr)++xr x.ws)++zk (x.ops.n:Int))++(x.os.take (k+1)).flatMap opL) w5):=by
           show Cat _ _ _ _ _ _;rw[k4.out,<-List.append_assoc];exact k7
          have RB:Hid (0<l+(opL y).length/\l+(opL y).length<=160923+i*770000+(k+1)*15100):=by have:=s.out;have:=Q.out;show _/\_;omega
          generalize(opL y).length=k5 at*;clear B C t k7 I Q P s u k4 p3 q0 q1 r0 r1 r2 r3 r4 T e6 i3;go_wp2_with (first|fail|(at_builtin;refine yg rfl _ _ rfl rfl rfl j ?_))
          go_roundw
          case rel=>exact⟨k+1,_,a5,c5,by omega,by go_num,rfl,RN,RB⟩
          case measure=>simp[intOf];omega
         ·have l7:¬(k:Int)<(x.ops.n:Int):=by omega
          have RN:Hid (Cat G a l c ((((((([83,89,1]++zk (d.heads.n:Int))++d.hs.flatMap zo8)++xr d.ms)++zk (d.states.n:Int))++d.ss.flatMap kg)++zk (d.acts.n:Int))++(d.al.take (i+1)).flatMap zpr) wr):=by
           have h:=I.out;rw[List.take_of_length_le (l:=x.os) (i:=k) (by have:=z8.out;omega)]at h
           show Cat _ _ _ _ _ _;rw[FT.out,show zpr x=xr x.ws++(zk (x.ops.n:Int)++x.os.flatMap opL)from rfl]
           simpa[List.append_assoc]using h
          have RB:Hid (0<l/\l<=155903+(i+1)*770000):=by have:=Q.out;show _/\_;omega
          clear I Q Y z8 J0 HS FT;go_wp2;go_roundw
          case rel=>exact⟨i+1,_,a,c,by omega,by go_num,rfl,RN,RB⟩
          case measure=>simp[intOf];omega
      ·have d8:¬(i:Int)<(d.acts.n:Int):=by omega
       have f4:Hid (Cat G a l c ((((((([83,89,1]++zk (d.heads.n:Int))++d.hs.flatMap zo8)++xr d.ms)++zk (d.states.n:Int))++d.ss.flatMap kg)++zk (d.acts.n:Int))++d.al.flatMap zpr) wr):=by
        have h:=I.out;rw[List.take_of_length_le (by have:=O.out.2.2.1;omega)]at h
        exact h
       have g0:Hid (0<l/\l<=6315903):=by have:=Q.out;have:=F.out.2.2.1;show _/\_;omega
       clear I Q hi f7 b8;have P:=hid (zpt (d.tabs.n:Int) wr (zbF (by have:=F.out.2.2.2.1;omega)))
       have s:=hid ((kd (zbF (by have:=F.out.2.2.2.1;omega):wfI (d.tabs.n:Int))))
       have u:Hid (Mth.Byt (zk (d.tabs.n:Int))):=k9 _;go_wp2_with (fail)
       refine P.out.mono ?_;rintro e Q6 ⟨Q5,U2,rfl,B,C,t⟩;have N:=s.out;have J:=g0.out;obtain⟨O1,N0,V0,j,A,D⟩:=Cat.put f4.out B C t u.out (by omega)
       have x9:=hid A;have y9:Hid (0<l+(zk (d.tabs.n:Int)).length/\l+(zk (d.tabs.n:Int)).length<=6315913):=by show _/\_;omega
       generalize(zk (d.tabs.n:Int)).length=k108 at*;clear B C t A P s u N J D f4 g0;clear p0 p1 p2 p3 p4 p5 p6 T d8;go_wp2_with (first|fail|(at_builtin;refine yg rfl _ _ rfl rfl rfl j ?_))
       clear j;go_loopw [3,10] (fun v q wr=>∃(i l:Nat) (a:Option Addr) (c:Nat),i<=d.tabs.n/\q=.int .i64 i/\v=.slice a l c/\Hid (Cat G a l c ((((((((([83,89,1]++zk (d.heads.n:Int))++d.hs.flatMap zo8)++xr d.ms)++zk (d.states.n:Int))++d.ss.flatMap kg)++zk (d.acts.n:Int))++d.al.flatMap zpr)++zk (d.tabs.n:Int))++(d.ts.take i).flatMap zpB) wr)/\Hid (0<l/\l<=6315913+i*30000)) (fun _ q _=>d.tabs.n-(intOf q).toNat)
       case atStart=>exact⟨0,_,O1,N0,zon _,rfl,rfl,by simpa using x9,by have:=y9.out;show _/\_;omega⟩
       case round=>
        clear x9 y9;obtain⟨i,l,a,c,hi,rfl,rfl,I,Q⟩:=hrel;obtain⟨p0,p1,p2,p3,p4,p5,p6⟩:=g4.out wr I.out.2;have T:pb<wr.heap.size:=zog _ _ p0;have b8:=F.out.2.2.2.1;by_cases f7:i<d.tabs.n
        ·have d8:(i:Int)<(d.tabs.n:Int):=by omega
         as_aux_lemma=>
          have hx:d.ts[i]?=some (d.ts[i]'(by have:=O.out.2.2.2.1;omega)):=zoh _
          obtain⟨g,off,ea,⟨q0,v0⟩,⟨q1,m1⟩,⟨q2,m2⟩,⟨q3,v3⟩,⟨q4,v4⟩,⟨q5,m5⟩,o4,F3,I2⟩:=(M.out wr I.out.2).ts.2 i _ hx;have FT:=hid (qz (f:=zpB) hx);have b6:=HM.out.tl _ (zoJ.2 ⟨_,zol hx,rfl⟩);generalize d.ts[i]'(by have:=O.out.2.2.2.1;omega)=x at*
          have b6:x.ks.length<=500/\x.al.length<=500/\x.zs.length<=500:=b6;have Y:=hid hx;have A5:=hid o4.1;have q9:x.keys.n<=500:=by have:=o4.1;omega
          have Q4:x.acts.n<=500:=by have:=F3.1;omega
          have R3:x.args.n<=500:=by have:=I2.1;omega
          have E:Hid (wfI x.kind/\wfI x.cap/\wfI x.dflt):=⟨v0,v3,v4⟩;have a8:Hid ((xr x.al).length<=5010):=zpx F3.2.1 b6.2.1 (by decide)
          have K4:Hid ((x.zs.flatMap fun z:Int=>y8 z.toNat).length<=5000):=by
           have:=zpa (f:=fun z:Int=>y8 z.toNat) (b:=10) (L:=x.zs) fun y hy=>zpm (by have:=bounds_u64 (I2.2.1 y hy);omega)
           have:=b6.2.2;show _<=_;omega
          rw[ea]at p4;obtain⟨W3,e3⟩:∃W3,W3=wr.alloc (.cells #[.int .i64 x.kind,.slice x.keys.a x.keys.n x.keys.c,.slice x.acts.a x.acts.n x.acts.c,.int .i64 x.cap,.int .i64 x.dflt,.slice x.args.a x.args.n x.args.c] 63):=⟨_,rfl⟩;obtain⟨xb,exb⟩:∃b,b=wr.heap.size:=⟨_,rfl⟩;obtain⟨tb,etb⟩:∃b,b=wr.heap.size+1:=⟨_,rfl⟩;have b3:Below wr.heap.size wr W3:=by rw[e3];exact ze (zof _ _)
          have f0:W3.heap[xb]?=some (.cells #[.int .i64 x.kind,.slice x.keys.a x.keys.n x.keys.c,.slice x.acts.a x.acts.n x.acts.c,.int .i64 x.cap,.int .i64 x.dflt,.slice x.args.a x.args.n x.args.c] 63 (0,0)):=by rw[e3,exb];show(wr.heap.push _)[wr.heap.size]?=_;rw[Array.getElem?_push_size]
          have Z:Hid (∀w',NB W3 w'->w'.cell? ⟨xb,0,none⟩=some (.int .i64 x.kind)/\w'.cell? ⟨xb,1,none⟩=some (.slice x.keys.a x.keys.n x.keys.c)/\w'.cell? ⟨xb,2,none⟩=some (.slice x.acts.a x.acts.n x.acts.c)/\w'.cell? ⟨xb,3,none⟩=some (.int .i64 x.cap)/\w'.cell? ⟨xb,4,none⟩=some (.int .i64 x.dflt)/\w'.cell? ⟨xb,5,none⟩=some (.slice x.args.a x.args.n x.args.c)):=fun w' hb=>by
           have h:=hb.2 _ _ _ _ (by decide) f0
           simp[World.cell?,h]
          have f8:=hid (I.out.step b3);have j0:tb=W3.heap.size:=by rw[etb,e3];simp
          have P:=hid (ztx W3 x.kind (x.keys.n:Int) E.out.1 (zbF (by omega)) j0)
          obtain⟨W4,e4⟩:∃W4,W4=W3.alloc (.cells #[.int .i64 x.kind,.int .i64 (x.keys.n:Int)] 3):=⟨_,rfl⟩;rw[<-e4]at P;have b4:Below W3.heap.size W3 W4:=by rw[e4];exact ze (zof _ _)
          have k6:=hid (f8.out.step b4);have f1:=hid (ky b4);have EW:Hid (W4=(wr.alloc (.cells #[.int .i64 x.kind,.slice x.keys.a x.keys.n x.keys.c,.slice x.acts.a x.acts.n x.acts.c,.int .i64 x.cap,.int .i64 x.dflt,.slice x.args.a x.args.n x.args.c] 63)).alloc (.cells #[.int .i64 x.kind,.int .i64 (x.keys.n:Int)] 3)):=by show W4=_;rw[e4,e3]
          have EX:=hid exb;have ET:=hid etb;have s:Hid ((zk x.kind++zk (x.keys.n:Int)).length<=20):=by show _<=_;rw[List.length_append];have:=kd E.out.1;have:=kd ((zbF (by omega)):wfI (x.keys.n:Int));omega
          have e6:g<wr.heap.size:=zog _ _ q0;clear hx o4 F3 I2 b6 m1 m2 m5 v0 v3 v4 e3 exb etb b3 b4 f0 j0 e4;rw[ea];go_wp2_with fail
          rw[<-EW.out,<-ET.out,<-EX.out];clear EW ET EX q0 q1 q2 q3 q4 q5 p0 p1 p2 p3 p4 p5 p6 T e6;refine P.out.mono ?_;rintro e v ⟨bb,dd,rfl,B,C,t⟩;have u:Hid (Mth.Byt (zk x.kind++zk (x.keys.n:Int))):=xf (k9 _) (k9 _);have N:=s.out;have J:=Q.out;obtain⟨M4,J8,D3,j,A,D⟩:=Cat.put k6.out B C t u.out (by omega)
          have v5:=hid A;have A0:Hid (0<l+(zk x.kind++zk (x.keys.n:Int)).length/\l+(zk x.kind++zk (x.keys.n:Int)).length<=6315933+i*30000):=by show _/\_;omega
          have h6:=hid (f1.out.trans D);generalize(zk x.kind++zk (x.keys.n:Int)).length=k109 at*;clear B C t A D P s u N J I f8 k6 f1 Q;obtain⟨y0,y1,y2,y3,y4,y5⟩:=Z.out D3 h6.out;have H:xb<D3.heap.size:=zog _ _ y0;go_wp2_with (first|fail|(at_builtin;refine yg rfl _ _ rfl rfl rfl j ?_))
          clear j y0 y1 y2 y3 y4 y5 H;go_loopw [3,12] (fun v q wr=>∃(k l:Nat) (a:Option Addr) (c:Nat),k<=x.keys.n/\q=.int .i64 k/\v=.slice a l c/\Hid (Cat G a l c ((((((((((([83,89,1]++zk (d.heads.n:Int))++d.hs.flatMap zo8)++xr d.ms)++zk (d.states.n:Int))++d.ss.flatMap kg)++zk (d.acts.n:Int))++d.al.flatMap zpr)++zk (d.tabs.n:Int))++(d.ts.take i).flatMap zpB)++(zk x.kind++zk (x.keys.n:Int)))++(x.ks.take k).flatMap zoZ) wr)/\Hid (NB W3 wr)/\Hid (0<l/\l<=6315933+i*30000+k*20)) (fun _ q _=>x.keys.n-(intOf q).toNat)
          case atStart=>exact⟨0,_,M4,J8,zon _,rfl,rfl,by simpa using v5,h6,by have:=A0.out;show _/\_;omega⟩
          case round=>
           clear v5 h6 A0;obtain⟨k,l,a,c,hk,rfl,rfl,I,d2,Q⟩:=hrel;obtain⟨y0,y1,y2,y3,y4,y5⟩:=Z.out wr d2.out;have H:xb<wr.heap.size:=zog _ _ y0;by_cases o7:k<x.keys.n
           ·have l7:(k:Int)<(x.keys.n:Int):=by omega
            as_aux_lemma=>
             have b7:x.ks[k]?=some (x.ks[k]'(by have:=A5.out;omega)):=zoh _
             obtain⟨_,_,_,_,_,_,_,_,_,o4,_⟩:=(M.out wr I.out.2).ts.2 i x Y.out;obtain⟨g2,R,f2,⟨r0,u0⟩,⟨r1,u1⟩⟩:=o4.2 k _ b7;have k4:=hid (qz (f:=zoZ) b7);generalize x.ks[k]'(by have:=A5.out;omega)=y at*
             rw[f2]at y1;have HS:Hid (∀w',NB W3 w'->Below G.heap.size G w'->w'.cell? ⟨xb,1,none⟩=some (.slice (some ⟨g2,R,none⟩) x.keys.n x.keys.c)/\w'.cell? ⟨g2,R+k*2,none⟩=some (.int .i64 y.h)/\w'.cell? ⟨g2,R+k*2+1,none⟩=some (.int .i64 y.f)):=fun w' B C=>by
              obtain⟨_,_,_,_,_,_,_,_,_,L7,_⟩:=(M.out w' C).ts.2 i x Y.out;obtain⟨g',v7,f3,⟨G0,-⟩,⟨E3,-⟩⟩:=L7.2 k y b7;rw[f2]at f3;simp only[zoo,Addr.mk.injEq,and_true]at f3;obtain⟨rfl,rfl⟩:=f3;have t:=(Z.out w' B).2.1;rw[f2]at t;exact⟨t,G0,E3⟩
             obtain⟨V,eV⟩:∃V,V=wr.alloc (.cells #[.int .i64 y.h,.int .i64 y.f] 3):=⟨_,rfl⟩;have bV:Below wr.heap.size wr V:=by rw[eV];exact ze (zof _ _)
             have y6:Has .i64 V (some ⟨wr.heap.size,0,none⟩) 2 [y.h,y.f]:=by rw[eV];exact zqP wr _ _ u0 u1
             have HZ:Hid (∀w',Below V.heap.size V w'->Calls Tryz.prog 41 #[.slice (some ⟨wr.heap.size,0,none⟩) 2 2] w' (BIs (zoZ y) w')):=fun w' hb=>by
              have:=zqm (some ⟨wr.heap.size,0,none⟩) 2 2 [y.h,y.f] w' (y6.step hb) (by omega)
              rwa[show[y.h,y.f].flatMap zk=zoZ y by unfold zoZ;simp]at this
             have a0:Hid (Below V.heap.size V V.drew):=(zof _ _).drew;have d3:=hid ((I.out.step bV).step a0.out);have l6:=hid (d2.out.trans ((ky bV).trans (ky a0.out)));have l9:Hid ((zoZ y).length<=20):=zqb u0 u1;have EV:=hid eV;have t4:Hid (Mth.Byt (zoZ y)):=xf (yv _) (yv _);have i3:g2<wr.heap.size:=zog _ _ r0;clear b7 o4 u0 u1 bV y6 eV I f2;go_wp2_with fail
             go_region_held3 (fun w'=>w'.cell? ⟨xb,1,none⟩=some (.slice (some ⟨g2,R,none⟩) x.keys.n x.keys.c)/\w'.cell? ⟨g2,R+k*2,none⟩=some (.int .i64 y.h)/\w'.cell? ⟨g2,R+k*2+1,none⟩=some (.int .i64 y.f))
              (first|(go_split_ands;first|exact⟨by assumption,by assumption,by assumption⟩)|go_keep)
              (first
               |(go_at_call 41;rw[<-EV.out];refine(HZ.out _ a0.out).mono ?_;rintro e J6 ⟨S0,T0,rfl,B,C,t⟩;obtain⟨B5,D1,B9,j6,g9,m6⟩:=Cat.put d3.out B C t t4.out (by have:=l9.out;have:=Q.out;have:=b8;omega);have x8:=hid g9;have m4:=hid (l6.out.trans m6);obtain⟨s2110,s2111,s2112⟩:=HS.out J6 (l6.out.trans (ky t)) (d3.out.2.trans (t.mono d3.out.2.size));obtain⟨H9,F6,G3⟩:=HS.out B9 m4.out x8.out.2)
               |(have hR:=j6;clear j6;refine zac rfl _ _ rfl (by simp[Act.eval]) (by simp[Act.eval]) hR ?_;clear hR))
             have RN:Hid (Cat G B5 (l+(zoZ y).length) D1 ((((((((((([83,89,1]++zk (d.heads.n:Int))++d.hs.flatMap zo8)++xr d.ms)++zk (d.states.n:Int))++d.ss.flatMap kg)++zk (d.acts.n:Int))++d.al.flatMap zpr)++zk (d.tabs.n:Int))++(d.ts.take i).flatMap zpB)++(zk x.kind++zk (x.keys.n:Int)))++(x.ks.take (k+1)).flatMap zoZ) B9):=by
              show Cat _ _ _ _ _ _;rw[k4.out,<-List.append_assoc];exact g9
             have RB:Hid (0<l+(zoZ y).length/\l+(zoZ y).length<=6315933+i*30000+(k+1)*20):=by have:=l9.out;have:=Q.out;show _/\_;omega
             have E9:=m4;generalize(zoZ y).length=m1 at*;clear g9 m6 x8 m4 B C t l6 d3 HZ a0 l9 EV t4 HS Q d2 k4 s2110 s2111 s2112 H9 F6 G3 y0 y1 y2 y3 y4 y5 r0 r1 i3 H;go_wp2;go_roundw
             case rel=>exact⟨k+1,_,B5,D1,by omega,by go_num,rfl,RN,E9,RB⟩
             case measure=>simp[intOf];omega
           ·have l7:¬(k:Int)<(x.keys.n:Int):=by omega
            have j4:Hid (Cat G a l c ((((((((((([83,89,1]++zk (d.heads.n:Int))++d.hs.flatMap zo8)++xr d.ms)++zk (d.states.n:Int))++d.ss.flatMap kg)++zk (d.acts.n:Int))++d.al.flatMap zpr)++zk (d.tabs.n:Int))++(d.ts.take i).flatMap zpB)++(zk x.kind++zk (x.keys.n:Int)))++x.ks.flatMap zoZ) wr):=by
             have h:=I.out;rw[List.take_of_length_le (l:=x.ks) (i:=k) (by have:=A5.out;omega)]at h
             exact h
            have d5:Hid (0<l/\l<=6325933+i*30000):=by have:=Q.out;show _/\_;omega
            have HS:Hid (∀w',NB W3 w'->Below G.heap.size G w'->w'.cell? ⟨xb,2,none⟩=some (.slice x.acts.a x.acts.n x.acts.c)/\w'.cell? ⟨xb,3,none⟩=some (.int .i64 x.cap)/\w'.cell? ⟨xb,4,none⟩=some (.int .i64 x.dflt)/\w'.cell? ⟨xb,5,none⟩=some (.slice x.args.a x.args.n x.args.c)):=fun w' B C=>by
             obtain⟨-,-,z2,z3,z4,z5⟩:=Z.out w' B;exact⟨z2,z3,z4,z5⟩
            have H8:Hid (∀w',Below wr.heap.size wr w'->Cat G a l c ((((((((((([83,89,1]++zk (d.heads.n:Int))++d.hs.flatMap zo8)++xr d.ms)++zk (d.states.n:Int))++d.ss.flatMap kg)++zk (d.acts.n:Int))++d.al.flatMap zpr)++zk (d.tabs.n:Int))++(d.ts.take i).flatMap zpB)++(zk x.kind++zk (x.keys.n:Int)))++x.ks.flatMap zoZ) w'):=fun w' hb=>j4.out.step hb
            have F7:Hid (∀w',Below wr.heap.size wr w'->NB W3 w'):=fun w' hb=>d2.out.trans (ky hb)
            have h5:Hid (∀w',Below G.heap.size G w'->Calls Tryz.prog 40 #[.slice x.acts.a x.acts.n x.acts.c] w' (BIs (xr x.al) w')):=fun w' hb=>by
             obtain⟨_,_,_,_,_,_,_,_,_,_,N7,_⟩:=(M.out w' hb).ts.2 i x Y.out;exact zqz x.acts.a x.acts.n x.acts.c x.al w' N7 (by omega)
            have l3:Hid (Mth.Byt (xr x.al)):=xf (yv _) (zo3 (fun y=>yv _) _)
            have z7:Hid (∀(w0 w':World) (b:Nat),b=w0.heap.size->NB (w0.alloc (.cells #[.int .i64 x.cap,.int .i64 x.dflt,.int .i64 (x.args.n:Int)] 3)) w'->Calls Tryz.prog 41 #[.slice (some ⟨b,0,none⟩) 3 3] w' (BIs ((zk x.cap++zk x.dflt)++zk (x.args.n:Int)) w')):=fun w0 w' b eb hb=>by
             subst eb;have h0:=hb.2 w0.heap.size #[.int .i64 x.cap,.int .i64 x.dflt,.int .i64 (x.args.n:Int)] 3 (0,0) (by decide) (show(w0.heap.push _)[w0.heap.size]?=_ by rw[Array.getElem?_push_size])
             have:=zqm (some ⟨w0.heap.size,0,none⟩) 3 3 [x.cap,x.dflt,(x.args.n:Int)] w' (zsN h0 E.out.2.1 E.out.2.2 (zbF (by omega))) (by omega)
             rwa[show[x.cap,x.dflt,(x.args.n:Int)].flatMap zk=(zk x.cap++zk x.dflt)++zk (x.args.n:Int)by simp]at this
            have x5:Hid (Mth.Byt ((zk x.cap++zk x.dflt)++zk (x.args.n:Int))):=xf (xf (yv _) (yv _)) (yv _);have d6:Hid (((zk x.cap++zk x.dflt)++zk (x.args.n:Int)).length<=30):=by
             have B:=kd E.out.2.1;have C:=kd E.out.2.2;have t:=kd (zbF (by omega):wfI (x.args.n:Int))
             show _<=_;simp only[List.length_append];omega
            obtain⟨L3,eL3⟩:∃L,L=(zk x.cap++zk x.dflt)++zk (x.args.n:Int):=⟨_,rfl⟩;rw[<-eL3]at z7 x5 d6;have I7:=hid eL3;clear I Q eL3;obtain⟨V,eV⟩:∃V,V=wr.alloc (.cells #[.int .i64 x.cap,.int .i64 x.dflt,.int .i64 (x.args.n:Int)] 3):=⟨_,rfl⟩;have a0:Hid (Below wr.heap.size wr wr.drew):=(zof _ _).drew;have E4:Hid (Below wr.heap.size wr V.drew):=by show Below _ _ _;rw[eV];exact(ze (zof _ _)).drew
            have L6:Hid (NB V V.drew):=ky (zof _ _).drew;have X:=hid (H8.out _ a0.out);have c8:=hid (F7.out _ a0.out);have g8:=hid (H8.out _ E4.out);have m8:=hid (F7.out _ E4.out);have EV:=hid eV;clear eV;go_upto_region 40 with fail
            go_cut [3]from 225 to 239 (fun v wc=>∃(a:Option Addr) (c:Nat),v=.slice a (l+(xr x.al).length+L3.length) c/\Hid (Cat G a (l+(xr x.al).length+L3.length) c ((((((((((((([83,89,1]++zk (d.heads.n:Int))++d.hs.flatMap zo8)++xr d.ms)++zk (d.states.n:Int))++d.ss.flatMap kg)++zk (d.acts.n:Int))++d.al.flatMap zpr)++zk (d.tabs.n:Int))++(d.ts.take i).flatMap zpB)++(zk x.kind++zk (x.keys.n:Int)))++x.ks.flatMap zoZ)++xr x.al)++L3) wc)/\Hid (NB W3 wc))
            case first=>
             as_aux_lemma=>
              refine zde 15 (by kernel_rfl) (by kernel_rfl) ?_
              refine wpAny_of_held (S:=(fun w'=>w'.cell? ⟨xb,2,none⟩=some (.slice x.acts.a x.acts.n x.acts.c)/\w'.cell? ⟨xb,3,none⟩=some (.int .i64 x.cap)/\w'.cell? ⟨xb,4,none⟩=some (.int .i64 x.dflt)/\w'.cell? ⟨xb,5,none⟩=some (.slice x.args.a x.args.n x.args.c))) _ _ _ _ ?_
              have m:(fun w'=>w'.cell? ⟨xb,2,none⟩=some (.slice x.acts.a x.acts.n x.acts.c)/\w'.cell? ⟨xb,3,none⟩=some (.int .i64 x.cap)/\w'.cell? ⟨xb,4,none⟩=some (.int .i64 x.dflt)/\w'.cell? ⟨xb,5,none⟩=some (.slice x.args.a x.args.n x.args.c)) wr.drew:=HS.out _ c8.out X.out.2
              refine wpAnyH_take (i:=0) (v:=?_) (jL rfl) (by kernel_rfl) (by kernel_rfl) (by kernel_rfl) (fun _ _ _ h=>h) (Or.inl ⟨by rfl,?_⟩) m ?_
              rotate_left
              ·intro w0 b0;try dsimp only at b0
               go_simp
               try with_reducible rfl
              try simp only[Act.put,List.setIfInBounds_toArray,List.set_cons_zero,List.set_cons_succ]
              refine wpAnyH_take (i:=1) (v:=?_) (jL rfl) (by kernel_rfl) (by kernel_rfl) (by kernel_rfl) (fun _ _ _ h=>h) (Or.inl ⟨by rfl,?_⟩) m ?_
              rotate_left
              ·intro w0 b0;try dsimp only at b0
               go_simp
               try with_reducible rfl
              try simp only[Act.put,List.setIfInBounds_toArray,List.set_cons_zero,List.set_cons_succ]
              refine wpAnyH_take (i:=2) (v:=?_) (jL rfl) (by kernel_rfl) (by kernel_rfl) (by kernel_rfl) (fun _ _ _ h=>h) (Or.inl ⟨by rfl,?_⟩) m ?_
              rotate_left
              ·intro w0 b0;try dsimp only at b0
               go_simp
               try with_reducible rfl
              try simp only[Act.put,List.setIfInBounds_toArray,List.set_cons_zero,List.set_cons_succ]
              refine wpAnyH_take (i:=5) (v:=?_) (jL rfl) (by kernel_rfl) (by kernel_rfl) (by kernel_rfl) (fun _ _ _ h=>h) (Or.inl ⟨by rfl,?_⟩) m ?_
              rotate_left
              ·intro w0 b0;try dsimp only at b0
               go_simp
               try with_reducible rfl
              try simp only[Act.put,List.setIfInBounds_toArray,List.set_cons_zero,List.set_cons_succ]
              refine wpAnyH_take (i:=6) (v:=?_) (jL rfl) (by kernel_rfl) (by kernel_rfl) (by kernel_rfl) (fun _ _ _ h=>h) (Or.inl ⟨by rfl,?_⟩) m ?_
              rotate_left
              ·intro w0 b0;try dsimp only at b0
               go_simp
               try with_reducible rfl
              try simp only[Act.put,List.setIfInBounds_toArray,List.set_cons_zero,List.set_cons_succ]
              refine wpAnyH_take (i:=7) (v:=?_) (jL rfl) (by kernel_rfl) (by kernel_rfl) (by kernel_rfl) (fun _ _ _ h=>h) (Or.inl ⟨by rfl,?_⟩) m ?_
              rotate_left
              ·intro w0 b0;try dsimp only at b0
               go_simp
               try with_reducible rfl
              try simp only[Act.put,List.setIfInBounds_toArray,List.set_cons_zero,List.set_cons_succ]
              refine wpAnyH_take (i:=8) (v:=?_) (jL rfl) (by kernel_rfl) (by kernel_rfl) (by kernel_rfl) (fun _ _ _ h=>h) (Or.inl ⟨by rfl,?_⟩) m ?_
              rotate_left
              ·intro w0 b0;try dsimp only at b0
               go_simp
               try with_reducible rfl
              try simp only[Act.put,List.setIfInBounds_toArray,List.set_cons_zero,List.set_cons_succ]
              refine wpAnyH_take (i:=9) (v:=?_) (jL rfl) (by kernel_rfl) (by kernel_rfl) (by kernel_rfl) (fun _ _ _ h=>h) (Or.inl ⟨by rfl,?_⟩) m ?_
              rotate_left
              ·intro w0 b0;try dsimp only at b0
               go_simp
               try with_reducible rfl
              try simp only[Act.put,List.setIfInBounds_toArray,List.set_cons_zero,List.set_cons_succ]
              refine wpAnyH_take (i:=10) (v:=?_) (jL rfl) (by kernel_rfl) (by kernel_rfl) (by kernel_rfl) (fun _ _ _ h=>h) (Or.inl ⟨by rfl,?_⟩) m ?_
              rotate_left
              ·intro w0 b0;try dsimp only at b0
               go_simp
               try with_reducible rfl
              try simp only[Act.put,List.setIfInBounds_toArray,List.set_cons_zero,List.set_cons_succ]
              refine wpAnyH_take (i:=11) (v:=?_) (jL rfl) (by kernel_rfl) (by kernel_rfl) (by kernel_rfl) (fun _ _ _ h=>h) (Or.inl ⟨by rfl,?_⟩) m ?_
              rotate_left
              ·intro w0 b0;try dsimp only at b0
               go_simp
               try with_reducible rfl
              try simp only[Act.put,List.setIfInBounds_toArray,List.set_cons_zero,List.set_cons_succ]
              refine wpAnyH_ready (rs:=[3,12]) (by kernel_rfl) (by simp) ?_
              refine AllReadyH.cons (jL rfl) (fun K hK=>?_) (AllReadyH.cons (jL rfl) (fun K hK=>?_) AllReadyH.nil)
              ·skip
               go_simp
               go_at_call 40
               refine(h5.out _ X.out.2).mono ?_;rintro e e8 ⟨J3,O0,rfl,B,C,t⟩;refine hK.out _ _ (HS.out e8 (c8.out.trans (ky t)) (X.out.2.trans (t.mono X.out.2.size))) (fun m=>?_)
               clear hK K;try simp only[List.setIfInBounds_toArray]
               obtain⟨M5,M9,e9,f9,i0,A1⟩:=Cat.put X.out B C t l3.out (by have:=a8.out;have:=d5.out;have:=b8;omega)
               have d1:=hid i0;have e7:=hid (c8.out.trans A1);refine wpAnyH_ready (rs:=[4,12]) (by kernel_rfl) (by simp) ?_
               refine AllReadyH.cons (jL rfl) (fun K hK=>?_) (AllReadyH.cons (jL rfl) (fun K hK=>?_) AllReadyH.nil)
               ·skip
                refine zac rfl _ _ rfl (by simp[Act.eval]) (by simp[Act.eval]) f9 ?_
                refine hK.out _ _ (HS.out e9 e7.out d1.out.2) (fun m=>?_)
                clear hK K;try simp only[List.setIfInBounds_toArray]
                obtain⟨V2,eV2⟩:∃V2,V2=e9.alloc (.cells #[.int .i64 x.cap,.int .i64 x.dflt,.int .i64 (x.args.n:Int)] 3):=⟨_,rfl⟩;have G6:Below e9.heap.size e9 V2:=by rw[eV2];exact ze (zof _ _)
                have A7:=hid (d1.out.step G6);have t5:=hid (e7.out.trans (ky G6));have N2:=hid eV2;clear eV2 G6;refine wpAnyH_ready (rs:=[12]) (by kernel_rfl) (by simp) ?_
                refine AllReadyH.cons (jL rfl) (fun K hK=>?_) AllReadyH.nil
                go_simp
                rw[<-N2.out];refine hK.out _ _ (HS.out V2 t5.out A7.out.2) (fun m=>?_)
                clear hK K;try simp only[List.setIfInBounds_toArray]
                refine wpAnyH_ready (rs:=[13]) (by kernel_rfl) (by simp) ?_
                refine AllReadyH.cons (jL rfl) (fun K hK=>?_) AllReadyH.nil
                go_simp
                go_at_call 41
                refine(z7.out e9 _ _ rfl (by rw[N2.out];exact NB.refl _)).mono ?_
                rintro e j7 ⟨B6,C2,rfl,g1,g2,g3⟩;obtain⟨r5,p7,i6,b9,d4,d7⟩:=Cat.put A7.out g1 g2 g3 x5.out (by have:=a8.out;have:=d6.out;have:=d5.out;have:=b8;omega)
                have W:=hid d4;have U:=hid (t5.out.trans d7);refine hK.out _ _ (HS.out j7 (t5.out.trans (ky g3)) (A7.out.2.trans (g3.mono A7.out.2.size))) (fun m=>?_)
                clear hK K;try simp only[List.setIfInBounds_toArray]
                refine wpAnyH_ready (rs:=[14]) (by kernel_rfl) (by simp) ?_
                refine AllReadyH.cons (jL rfl) (fun K hK=>?_) AllReadyH.nil
                refine zac rfl _ _ rfl (by simp[Act.eval]) (by simp[Act.eval]) b9 ?_
                refine hK.out _ _ (HS.out i6 U.out W.out.2) (fun m=>?_)
                clear hK K;try simp only[List.setIfInBounds_toArray]
                refine wpAnyH_done (by kernel_rfl) ?_ _
                dsimp only[zbv];clear m;go_wp2_with fail
                go_meet
                exact⟨_,_,rfl,W,U⟩
               ·skip
                obtain⟨V3,eV3⟩:∃V3,V3=e8.alloc (.cells #[.int .i64 x.cap,.int .i64 x.dflt,.int .i64 (x.args.n:Int)] 3):=⟨_,rfl⟩;have F8:Below e8.heap.size e8 V3:=by rw[eV3];exact ze (zof _ _)
                have L5:=B.step F8;have x6:=zh t F8;obtain⟨S2,R9,C0,x7,m7,h9⟩:=Cat.put2 X.out L5 C x6 l3.out (by have:=a8.out;have:=d5.out;have:=b8;omega)
                have h8:=hid m7;have l5:=hid (c8.out.trans ((ky x6).trans h9));have G7:Hid (NB (e8.alloc (.cells #[.int .i64 x.cap,.int .i64 x.dflt,.int .i64 (x.args.n:Int)] 3)) C0):=by rw[<-eV3];exact h9
                have P2:=hid (HS.out V3 (c8.out.trans (ky x6)) (X.out.2.trans (x6.mono X.out.2.size)));have P3:=hid eV3;clear eV3 F8 L5 x6 m7 h9;go_simp
                rw[<-P3.out];refine hK.out _ _ (P2.out) (fun m=>?_)
                clear hK K;try simp only[List.setIfInBounds_toArray]
                refine wpAnyH_ready (rs:=[4]) (by kernel_rfl) (by simp) ?_
                refine AllReadyH.cons (jL rfl) (fun K hK=>?_) AllReadyH.nil
                refine zac rfl _ _ rfl (by simp[Act.eval]) (by simp[Act.eval]) x7 ?_
                refine hK.out _ _ (HS.out C0 l5.out h8.out.2) (fun m=>?_)
                clear hK K;try simp only[List.setIfInBounds_toArray]
                refine wpAnyH_ready (rs:=[13]) (by kernel_rfl) (by simp) ?_
                refine AllReadyH.cons (jL rfl) (fun K hK=>?_) AllReadyH.nil
                go_simp
                go_at_call 41
                refine(z7.out e8 _ _ rfl G7.out).mono ?_;rintro e j7 ⟨B6,C2,rfl,g1,g2,g3⟩;obtain⟨r5,p7,i6,b9,d4,d7⟩:=Cat.put h8.out g1 g2 g3 x5.out (by have:=a8.out;have:=d6.out;have:=d5.out;have:=b8;omega)
                have W:=hid d4;have U:=hid (l5.out.trans d7);refine hK.out _ _ (HS.out j7 (l5.out.trans (ky g3)) (h8.out.2.trans (g3.mono h8.out.2.size))) (fun m=>?_)
                clear hK K;try simp only[List.setIfInBounds_toArray]
                refine wpAnyH_ready (rs:=[14]) (by kernel_rfl) (by simp) ?_
                refine AllReadyH.cons (jL rfl) (fun K hK=>?_) AllReadyH.nil
                refine zac rfl _ _ rfl (by simp[Act.eval]) (by simp[Act.eval]) b9 ?_
                refine hK.out _ _ (HS.out i6 U.out W.out.2) (fun m=>?_)
                clear hK K;try simp only[List.setIfInBounds_toArray]
                refine wpAnyH_done (by kernel_rfl) ?_ _
                dsimp only[zbv];clear m;go_wp2_with fail
                go_meet
                exact⟨_,_,rfl,W,U⟩
              ·skip
               go_simp
               rw[<-EV.out];refine hK.out _ _ (HS.out _ m8.out g8.out.2) (fun m=>?_)
               clear hK K;try simp only[List.setIfInBounds_toArray]
               refine wpAnyH_ready (rs:=[3]) (by kernel_rfl) (by simp) ?_
               refine AllReadyH.cons (jL rfl) (fun K hK=>?_) AllReadyH.nil
               go_simp
               go_at_call 40
               refine(h5.out _ g8.out.2).mono ?_;rintro e e8 ⟨J3,O0,rfl,B,C,t⟩;refine hK.out _ _ (HS.out e8 (m8.out.trans (ky t)) (g8.out.2.trans (t.mono g8.out.2.size))) (fun m=>?_)
               clear hK K;try simp only[List.setIfInBounds_toArray]
               obtain⟨M5,M9,e9,f9,i0,n7⟩:=Cat.put2 g8.out B C t l3.out (by have:=a8.out;have:=d5.out;have:=b8;omega)
               have d1:=hid i0;have e7:=hid (m8.out.trans ((ky t).trans n7));have E6:Hid (NB (wr.alloc (.cells #[.int .i64 x.cap,.int .i64 x.dflt,.int .i64 (x.args.n:Int)] 3)) e9):=by have h:=L6.out.trans ((ky t).trans n7);rw[EV.out]at h;exact h
               refine wpAnyH_ready (rs:=[4]) (by kernel_rfl) (by simp) ?_
               refine AllReadyH.cons (jL rfl) (fun K hK=>?_) AllReadyH.nil
               refine zac rfl _ _ rfl (by simp[Act.eval]) (by simp[Act.eval]) f9 ?_
               refine hK.out _ _ (HS.out e9 e7.out d1.out.2) (fun m=>?_)
               clear hK K;try simp only[List.setIfInBounds_toArray]
               refine wpAnyH_ready (rs:=[13]) (by kernel_rfl) (by simp) ?_
               refine AllReadyH.cons (jL rfl) (fun K hK=>?_) AllReadyH.nil
               go_simp
               go_at_call 41
               refine(z7.out wr _ _ rfl E6.out).mono ?_;rintro e j7 ⟨B6,C2,rfl,g1,g2,g3⟩;obtain⟨r5,p7,i6,b9,d4,d7⟩:=Cat.put d1.out g1 g2 g3 x5.out (by have:=a8.out;have:=d6.out;have:=d5.out;have:=b8;omega)
               have W:=hid d4;have U:=hid (e7.out.trans d7);refine hK.out _ _ (HS.out j7 (e7.out.trans (ky g3)) (d1.out.2.trans (g3.mono d1.out.2.size))) (fun m=>?_)
               clear hK K;try simp only[List.setIfInBounds_toArray]
               refine wpAnyH_ready (rs:=[14]) (by kernel_rfl) (by simp) ?_
               refine AllReadyH.cons (jL rfl) (fun K hK=>?_) AllReadyH.nil
               refine zac rfl _ _ rfl (by simp[Act.eval]) (by simp[Act.eval]) b9 ?_
               refine hK.out _ _ (HS.out i6 U.out W.out.2) (fun m=>?_)
               clear hK K;try simp only[List.setIfInBounds_toArray]
               refine wpAnyH_done (by kernel_rfl) ?_ _
               dsimp only[zbv];clear m;go_wp2_with fail
               go_meet
               exact⟨_,_,rfl,W,U⟩
            case rest=>
             as_aux_lemma=>
              obtain⟨r5,p7,rfl,W,U⟩:=hcut;have l1:Hid (0<l+(xr x.al).length+L3.length/\l+(xr x.al).length+L3.length<=6330973+i*30000):=by have:=a8.out;have:=d6.out;have:=d5.out;show _/\_;omega
              clear h5 l3 a8 z7 x5 d6 X c8 g8 m8 H8 F7 a0 E4 L6 HS EV j4 d5 d2 y0 y1 y2 y3 y4 y5 H l7;generalize(xr x.al).length=k301 at*;generalize L3.length=k302 at*;obtain⟨y0,y1,y2,y3,y4,y5⟩:=Z.out wc U.out;have H:xb<wc.heap.size:=zog _ _ y0;have P:=hid (zsw x.args.a x.args.n x.args.c x.zs wc (by obtain⟨_,_,_,_,_,_,_,_,_,_,_,hz⟩:=(M.out wc W.out.2).ts.2 i x Y.out;exact hz) (by omega))
              have s:=hid (K4.out);have u:Hid (Mth.Byt (x.zs.flatMap fun z:Int=>y8 z.toNat)):=zo3 (fun y=>yv _) _
              go_wp2_with (fail)
              refine P.out.mono ?_;rintro e R2 ⟨T2,R8,rfl,B,C,t⟩;have N:=s.out;have J:=l1.out;obtain⟨D7,B8,I6,j,A,D⟩:=Cat.put W.out B C t u.out (by omega)
              have o9:=hid A;have p9:Hid (0<(l+k301+k302)+(x.zs.flatMap fun z:Int=>y8 z.toNat).length/\(l+k301+k302)+(x.zs.flatMap fun z:Int=>y8 z.toNat).length<=6335973+i*30000):=by show _/\_;omega
              have B1:=hid (U.out.trans D);generalize(x.zs.flatMap fun z:Int=>y8 z.toNat).length=k110 at*
              clear B C t A P s u N J y0 y1 y2 y3 y4 y5 H D;have RN:Hid (Cat G D7 ((l+k301+k302)+k110) B8 ((((((((([83,89,1]++zk (d.heads.n:Int))++d.hs.flatMap zo8)++xr d.ms)++zk (d.states.n:Int))++d.ss.flatMap kg)++zk (d.acts.n:Int))++d.al.flatMap zpr)++zk (d.tabs.n:Int))++(d.ts.take (i+1)).flatMap zpB) I6):=by
               have h:=o9.out;obtain⟨_,_,_,_,_,_,_,_,_,_,_,hz⟩:=(M.out _ h.2).ts.2 i x Y.out;show Cat _ _ _ _ _ _;rw[FT.out,show zpB x=zk x.kind++((zk (x.keys.n:Int)++x.ks.flatMap zoZ)++(xr x.al++((zk x.cap++zk x.dflt)++(zk (x.args.n:Int)++x.zs.flatMap fun z:Int=>y8 z.toNat))))by unfold zpB zqa;rw[hz.1]]
               rw[I7.out]at h;simpa[List.append_assoc]using h
              have RB:Hid (0<((l+k301+k302)+k110)/\((l+k301+k302)+k110)<=6315913+(i+1)*30000):=by have:=p9.out;show _/\_;omega
              clear Y A5 E K4 FT Z I7 o9 p9 B1;go_wp2_with (first|fail|(at_builtin;refine yg rfl _ _ rfl rfl rfl j ?_))
              go_roundw
              case rel=>exact⟨i+1,_,D7,B8,by omega,by go_num,rfl,RN,RB⟩
              case measure=>simp[intOf];omega
        ·have d8:¬(i:Int)<(d.tabs.n:Int):=by omega
         have f4:Hid (Cat G a l c ((((((((([83,89,1]++zk (d.heads.n:Int))++d.hs.flatMap zo8)++xr d.ms)++zk (d.states.n:Int))++d.ss.flatMap kg)++zk (d.acts.n:Int))++d.al.flatMap zpr)++zk (d.tabs.n:Int))++d.ts.flatMap zpB) wr):=by
          have h:=I.out;rw[List.take_of_length_le (by have:=O.out.2.2.2.1;omega)]at h
          exact h
         have g0:Hid (0<l/\l<=6465913):=by have:=Q.out;have:=F.out.2.2.2.1;show _/\_;omega
         clear I Q hi f7 b8;have P:=hid (zpt (d.nodes.n:Int) wr (zbF (by have:=F.out.2.2.2.2;omega)))
         have s:=hid ((kd (zbF (by have:=F.out.2.2.2.2;omega):wfI (d.nodes.n:Int))))
         have u:Hid (Mth.Byt (zk (d.nodes.n:Int))):=k9 _;go_wp2_with (fail)
         refine P.out.mono ?_;rintro e R0 ⟨T7,R4,rfl,B,C,t⟩;have N:=s.out;have J:=g0.out;obtain⟨J2,M1,S3,j,A,D⟩:=Cat.put f4.out B C t u.out (by omega)
         have o8:=hid A;have r9:Hid (0<l+(zk (d.nodes.n:Int)).length/\l+(zk (d.nodes.n:Int)).length<=6465923):=by show _/\_;omega
         generalize(zk (d.nodes.n:Int)).length=k111 at*;clear B C t A P s u N J D f4 g0;clear p0 p1 p2 p3 p4 p5 p6 T d8;go_wp2_with (first|fail|(at_builtin;refine yg rfl _ _ rfl rfl rfl j ?_))
         clear j;go_loopw [3,13] (fun v q wr=>∃(i l:Nat) (a:Option Addr) (c:Nat),i<=d.nodes.n/\q=.int .i64 i/\v=.slice a l c/\Hid (Cat G a l c ((((((((((([83,89,1]++zk (d.heads.n:Int))++d.hs.flatMap zo8)++xr d.ms)++zk (d.states.n:Int))++d.ss.flatMap kg)++zk (d.acts.n:Int))++d.al.flatMap zpr)++zk (d.tabs.n:Int))++d.ts.flatMap zpB)++zk (d.nodes.n:Int))++(d.ns.take i).flatMap zpg) wr)/\Hid (0<l/\l<=6465923+i*15100)) (fun _ q _=>d.nodes.n-(intOf q).toNat)
         case atStart=>exact⟨0,_,J2,M1,zon _,rfl,rfl,by simpa using o8,by have:=r9.out;show _/\_;omega⟩
         case round=>
          clear o8 r9;obtain⟨i,l,a,c,hi,rfl,rfl,I,Q⟩:=hrel;obtain⟨p0,p1,p2,p3,p4,p5,p6⟩:=g4.out wr I.out.2;have T:pb<wr.heap.size:=zog _ _ p0;have b8:=F.out.2.2.2.2;by_cases f7:i<d.nodes.n
          ·have d8:(i:Int)<(d.nodes.n:Int):=by omega
           as_aux_lemma=>
            have hx:d.ns[i]?=some (d.ns[i]'(by have:=O.out.2.2.2.2;omega)):=zoh _
            obtain⟨g,off,ea,⟨q0,v0⟩,⟨q1,v1⟩,⟨q2,m2⟩,⟨q3,v3⟩,⟨q4,v4⟩,i7⟩:=(M.out wr I.out.2).ns.2 i _ hx;have FT:=hid (qz (f:=zpg) hx);have g5:=HM.out.ne _ (zoJ.2 ⟨_,zol hx,rfl⟩);generalize d.ns[i]'(by have:=O.out.2.2.2.2;omega)=x at*
            have b6:x.es.length<=500:=g5;have Y:=hid hx;have q9:x.e.n<=500:=by have:=i7.1;omega
            have E:Hid (wfI x.kind/\wfI x.n/\wfI x.yes/\wfI x.no):=⟨v0,v1,v3,v4⟩;have a8:Hid ((zpc x.es).length<=15010):=zeF (zqQ i7) b6;rw[ea]at p5;obtain⟨W3,e3⟩:∃W3,W3=wr.alloc (.cells #[.int .i64 x.kind,.int .i64 x.n,.slice x.e.a x.e.n x.e.c,.int .i64 x.yes,.int .i64 x.no] 65):=⟨_,rfl⟩;obtain⟨xb,exb⟩:∃b,b=wr.heap.size:=⟨_,rfl⟩;obtain⟨tb,etb⟩:∃b,b=wr.heap.size+1:=⟨_,rfl⟩;have b3:Below wr.heap.size wr W3:=by rw[e3];exact ze (zof _ _)
            have f0:W3.heap[xb]?=some (.cells #[.int .i64 x.kind,.int .i64 x.n,.slice x.e.a x.e.n x.e.c,.int .i64 x.yes,.int .i64 x.no] 65 (0,0)):=by rw[e3,exb];show(wr.heap.push _)[wr.heap.size]?=_;rw[Array.getElem?_push_size]
            have Z:Hid (∀w',NB W3 w'->w'.cell? ⟨xb,0,none⟩=some (.int .i64 x.kind)/\w'.cell? ⟨xb,1,none⟩=some (.int .i64 x.n)/\w'.cell? ⟨xb,2,none⟩=some (.slice x.e.a x.e.n x.e.c)/\w'.cell? ⟨xb,3,none⟩=some (.int .i64 x.yes)/\w'.cell? ⟨xb,4,none⟩=some (.int .i64 x.no)):=fun w' hb=>by
             have h:=hb.2 _ _ _ _ (by decide) f0
             simp[World.cell?,h]
            have f8:=hid (I.out.step b3);have j0:tb=W3.heap.size:=by rw[etb,e3];simp
            have P:=hid (ztx W3 x.kind x.yes E.out.1 E.out.2.2.1 j0);obtain⟨W4,e4⟩:∃W4,W4=W3.alloc (.cells #[.int .i64 x.kind,.int .i64 x.yes] 3):=⟨_,rfl⟩;rw[<-e4]at P;have b4:Below W3.heap.size W3 W4:=by rw[e4];exact ze (zof _ _)
            have k6:=hid (f8.out.step b4);have f1:=hid (ky b4);have EW:Hid (W4=(wr.alloc (.cells #[.int .i64 x.kind,.int .i64 x.n,.slice x.e.a x.e.n x.e.c,.int .i64 x.yes,.int .i64 x.no] 65)).alloc (.cells #[.int .i64 x.kind,.int .i64 x.yes] 3)):=by show W4=_;rw[e4,e3]
            have EX:=hid exb;have ET:=hid etb;have s:Hid ((zk x.kind++zk x.yes).length<=20):=by show _<=_;rw[List.length_append];have:=kd E.out.1;have:=kd (E.out.2.2.1:wfI x.yes);omega
            have e6:g<wr.heap.size:=zog _ _ q0;clear hx i7 b6 g5 m2 v0 v1 v3 v4 e3 exb etb b3 b4 f0 j0 e4;rw[ea];go_wp2_with fail
            rw[<-EW.out,<-ET.out,<-EX.out];clear EW ET EX q0 q1 q2 q3 q4 p0 p1 p2 p3 p4 p5 p6 T e6;refine P.out.mono ?_;rintro e v ⟨bb,dd,rfl,B,C,t⟩;have u:Hid (Mth.Byt (zk x.kind++zk x.yes)):=xf (k9 _) (k9 _);have N:=s.out;have J:=Q.out;obtain⟨U0,Q9,d0,j,A,D⟩:=Cat.put k6.out B C t u.out (by omega)
            have i1:=hid A;have e1:Hid (0<l+(zk x.kind++zk x.yes).length/\l+(zk x.kind++zk x.yes).length<=6465943+i*15100):=by show _/\_;omega
            have d9:=hid (f1.out.trans D);generalize(zk x.kind++zk x.yes).length=k112 at*;clear B C t A D P s u N J I f8 k6 f1 Q;(try clear ea)
            obtain⟨y0,y1,y2,y3,y4⟩:=Z.out d0 d9.out;have H:xb<d0.heap.size:=zog _ _ y0;by_cases o6:x.kind=3
            ·have e3:(x.kind==3)=true:=by rw[o6];rfl
             as_aux_lemma=>
              have B2:=hid o6;clear o6;have HS:Hid (∀w',NB W3 w'->Below G.heap.size G w'->w'.cell? ⟨xb,2,none⟩=some (.slice x.e.a x.e.n x.e.c)/\w'.cell? ⟨xb,4,none⟩=some (.int .i64 x.no)):=fun w' B _=>⟨(Z.out w' B).2.2.1,(Z.out w' B).2.2.2.2⟩
              have a0:Hid (Below d0.heap.size d0 d0.drew):=(zof _ _).drew;have X:=hid (i1.out.step a0.out);have c8:=hid (d9.out.trans (ky a0.out));have h5:Hid (∀w',Below G.heap.size G w'->Calls Tryz.prog 44 #[.slice x.e.a x.e.n x.e.c] w' (BIs (zpc x.es) w')):=fun w' hb=>by
               obtain⟨_,_,_,_,_,_,_,_,K8⟩:=(M.out w' hb).ns.2 i x Y.out;exact zuH x.e x.es w' K8 q9
              have v8:=hid (fun w'=>zpt x.no w' E.out.2.2.2)
              have d6:Hid ((zk x.no).length<=10):=kd E.out.2.2.2;go_wp2_with (first|fail|(at_builtin;refine yg rfl _ _ rfl rfl rfl j ?_))
              clear j;go_region_held3 (fun w'=>w'.cell? ⟨xb,2,none⟩=some (.slice x.e.a x.e.n x.e.c)/\w'.cell? ⟨xb,4,none⟩=some (.int .i64 x.no))
               (first|(go_split_ands;first|exact⟨by assumption,by assumption⟩)|go_keep)
               (first
                |(go_at_call 44;refine(h5.out _ X.out.2).mono ?_;rintro e N6 ⟨R6,S9,rfl,B,C,t⟩;obtain⟨S6,T9,L9,i4,n1,m9⟩:=Cat.put X.out B C t (zp7 _) (by have:=a8.out;have:=e1.out;have:=b8;omega);have f6:=hid n1;have h4:=hid (c8.out.trans m9);obtain⟨s4010,s4011⟩:=HS.out N6 (c8.out.trans (ky t)) (X.out.2.trans (t.mono X.out.2.size));obtain⟨H3,G9⟩:=HS.out L9 h4.out f6.out.2)
                |(have hR:=i4;clear i4;refine zac rfl _ _ rfl (by simp[Act.eval]) (by simp[Act.eval]) hR ?_;clear hR)
                |(go_at_call 39;refine(v8.out _).mono ?_;rintro e K7 ⟨P6,T8,rfl,B,C,t⟩;obtain⟨D8,D2,C8,k8,n6,o0⟩:=Cat.put f6.out B C t (k9 _) (by have:=a8.out;have:=d6.out;have:=e1.out;have:=b8;omega);have l8:=hid n6;have w2:=hid (h4.out.trans o0);obtain⟨s4020,s4021⟩:=HS.out K7 (h4.out.trans (ky t)) (f6.out.2.trans (t.mono f6.out.2.size));obtain⟨H5,F9⟩:=HS.out C8 w2.out l8.out.2)
                |(have hR:=k8;clear k8;refine zac rfl _ _ rfl (by simp[Act.eval]) (by simp[Act.eval]) hR ?_;clear hR))
              have l1:Hid (0<(l+k112)+(zpc x.es).length+(zk x.no).length/\(l+k112)+(zpc x.es).length+(zk x.no).length<=6480963+i*15100):=by have:=a8.out;have:=d6.out;have:=e1.out;show _/\_;omega
              clear n1 m9 f6 h4 n6 o0 B C t h5 v8 d6 X c8 a0 HS s4010 s4011 H3 G9 s4020 s4021 H5 F9 y0 y1 y2 y3 y4 H i1 e1 d9;generalize(zpc x.es).length=k401 at*;generalize(zk x.no).length=k402 at*;have RN:Hid (Cat G D8 ((l+k112)+k401+k402) D2 ((((((((((([83,89,1]++zk (d.heads.n:Int))++d.hs.flatMap zo8)++xr d.ms)++zk (d.states.n:Int))++d.ss.flatMap kg)++zk (d.acts.n:Int))++d.al.flatMap zpr)++zk (d.tabs.n:Int))++d.ts.flatMap zpB)++zk (d.nodes.n:Int))++(d.ns.take (i+1)).flatMap zpg) C8):=by
               have h:=l8.out;show Cat _ _ _ _ _ _;rw[FT.out,show zpg x=_ from by unfold zpg;rw[if_pos B2.out]]
               simpa[List.append_assoc]using h
              have RB:Hid (0<((l+k112)+k401+k402)/\((l+k112)+k401+k402)<=6465923+(i+1)*15100):=by have:=l1.out;show _/\_;omega
              clear Y E a8 FT Z l8 l1 w2;go_wp2_with (fail)
              go_roundw
              case rel=>exact⟨i+1,_,D8,D2,by omega,by go_num,rfl,RN,RB⟩
              case measure=>simp[intOf];omega
            ·have e3:(x.kind==3)=false:=by simpa using o6
             have B2:=hid o6;clear o6;by_cases o3:x.kind=4
             ·have e4:(x.kind==4)=true:=by rw[o3];rfl
              as_aux_lemma=>
               have H7:=hid o3;clear o3;obtain⟨V5,e5⟩:∃V,V=d0.alloc (.cells #[.int .i64 x.n,.int .i64 x.no] 3):=⟨_,rfl⟩;have b5:Below d0.heap.size d0 V5:=by rw[e5];exact ze (zof _ _)
               have l4:=ztx d0 x.n x.no E.out.2.1 E.out.2.2.2 rfl;rw[<-e5]at l4;have k7:=hid (i1.out.step b5);have i9:=hid (d9.out.trans (ky b5));have E5:=hid e5;clear e5 b5;have P:=hid (l4);have s:=hid (show(zk x.n++zk x.no).length<=20 by rw[List.length_append];have:=kd E.out.2.1;have:=kd E.out.2.2.2;omega)
               have u:Hid (Mth.Byt (zk x.n++zk x.no)):=xf (k9 _) (k9 _);go_wp2_with (first|fail|(at_builtin;refine yg rfl _ _ rfl rfl rfl j ?_))
               rw[<-E5.out];refine P.out.mono ?_;rintro e Q8 ⟨U3,T5,rfl,B,C,t⟩;have N:=s.out;have J:=e1.out;obtain⟨E0,C5,I9,j,A,D⟩:=Cat.put k7.out B C t u.out (by omega)
               have t9:=hid A;have r7:Hid (0<(l+k112)+(zk x.n++zk x.no).length/\(l+k112)+(zk x.n++zk x.no).length<=6465963+i*15100):=by show _/\_;omega
               have B0:=hid (i9.out.trans D);generalize(zk x.n++zk x.no).length=k113 at*;clear B C t A P s u N J k7 i9 E5 y0 y1 y2 y3 y4 H l4 D;have RN:Hid (Cat G E0 ((l+k112)+k113) C5 ((((((((((([83,89,1]++zk (d.heads.n:Int))++d.hs.flatMap zo8)++xr d.ms)++zk (d.states.n:Int))++d.ss.flatMap kg)++zk (d.acts.n:Int))++d.al.flatMap zpr)++zk (d.tabs.n:Int))++d.ts.flatMap zpB)++zk (d.nodes.n:Int))++(d.ns.take (i+1)).flatMap zpg) I9):=by
                have h:=t9.out;show Cat _ _ _ _ _ _;rw[FT.out,show zpg x=_ from by unfold zpg;rw[if_neg B2.out,if_pos H7.out]]
                simpa[List.append_assoc]using h
               have RB:Hid (0<((l+k112)+k113)/\((l+k112)+k113)<=6465923+(i+1)*15100):=by have:=r7.out;show _/\_;omega
               clear Y E a8 FT Z t9 r7 B0;go_wp2_with (first|fail|(at_builtin;refine yg rfl _ _ rfl rfl rfl j ?_))
               go_roundw
               case rel=>exact⟨i+1,_,E0,C5,by omega,by go_num,rfl,RN,RB⟩
               case measure=>simp[intOf];omega
             ·have e4:(x.kind==4)=false:=by simpa using o3
              as_aux_lemma=>
               have H7:=hid o3;clear o3;have P:=hid (zpt x.n d0 E.out.2.1);have s:=hid (kd E.out.2.1);have u:Hid (Mth.Byt (zk x.n)):=k9 _;go_wp2_with (first|fail|(at_builtin;refine yg rfl _ _ rfl rfl rfl j ?_))
               refine P.out.mono ?_;rintro e S4 ⟨Q3,T3,rfl,B,C,t⟩;have N:=s.out;have J:=e1.out;obtain⟨E1,C3,M3,j,A,D⟩:=Cat.put i1.out B C t u.out (by omega)
               have p8:=hid A;have q8:Hid (0<(l+k112)+(zk x.n).length/\(l+k112)+(zk x.n).length<=6465953+i*15100):=by show _/\_;omega
               have A2:=hid (d9.out.trans D);generalize(zk x.n).length=k114 at*;clear B C t A P s u N J y0 y1 y2 y3 y4 H D;have RN:Hid (Cat G E1 ((l+k112)+k114) C3 ((((((((((([83,89,1]++zk (d.heads.n:Int))++d.hs.flatMap zo8)++xr d.ms)++zk (d.states.n:Int))++d.ss.flatMap kg)++zk (d.acts.n:Int))++d.al.flatMap zpr)++zk (d.tabs.n:Int))++d.ts.flatMap zpB)++zk (d.nodes.n:Int))++(d.ns.take (i+1)).flatMap zpg) M3):=by
                have h:=p8.out;show Cat _ _ _ _ _ _;rw[FT.out,show zpg x=_ from by unfold zpg;rw[if_neg B2.out,if_neg H7.out]]
                simpa[List.append_assoc]using h
               have RB:Hid (0<((l+k112)+k114)/\((l+k112)+k114)<=6465923+(i+1)*15100):=by have:=q8.out;show _/\_;omega
               clear Y E a8 FT Z p8 q8 A2;go_wp2_with (first|fail|(at_builtin;refine yg rfl _ _ rfl rfl rfl j ?_))
               go_roundw
               case rel=>exact⟨i+1,_,E1,C3,by omega,by go_num,rfl,RN,RB⟩
               case measure=>simp[intOf];omega
          ·have d8:¬(i:Int)<(d.nodes.n:Int):=by omega
           as_aux_lemma=>
            have f4:Hid (Cat G a l c ((((((((((([83,89,1]++zk (d.heads.n:Int))++d.hs.flatMap zo8)++xr d.ms)++zk (d.states.n:Int))++d.ss.flatMap kg)++zk (d.acts.n:Int))++d.al.flatMap zpr)++zk (d.tabs.n:Int))++d.ts.flatMap zpB)++zk (d.nodes.n:Int))++d.ns.flatMap zpg) wr):=by
             have h:=I.out;rw[List.take_of_length_le (by have:=O.out.2.2.2.2;omega)]at h
             exact h
            have g0:Hid (0<l/\l<=6616923):=by have:=Q.out;have:=F.out.2.2.2.2;show _/\_;omega
            clear I Q hi f7 b8;have P:=hid (zqz d.out.a d.out.n d.out.c d.os wr (M.out wr f4.out.2).os (by have:=HM.out.os;have:=r8.out.os.1;simp only[PlanD.p]at*;omega))
            have s:=hid (zpx r8.out.os.2.1 HM.out.os (by decide))
            have u:Hid (Mth.Byt (xr d.os)):=xf (yv _) (zo3 (fun y=>yv _) _)
            go_wp2_with (fail)
            refine P.out.mono ?_;rintro e V4 ⟨V1,R5,rfl,B,C,t⟩;have N:=s.out;have J:=g0.out;obtain⟨D0,D9,C7,j,A,D⟩:=Cat.put f4.out B C t u.out (by omega)
            have t7:=hid A;have t6:Hid (0<l+(xr d.os).length/\l+(xr d.os).length<=6621933):=by show _/\_;omega
            generalize(xr d.os).length=k115 at*;clear B C t A P s u N J D f4 g0 d8;clear p0 p1 p2 p3 p4 p5 p6 T;have EB:Hid ((((((((((((([83,89,1]++zk (d.heads.n:Int))++d.hs.flatMap zo8)++xr d.ms)++zk (d.states.n:Int))++d.ss.flatMap kg)++zk (d.acts.n:Int))++d.al.flatMap zpr)++zk (d.tabs.n:Int))++d.ts.flatMap zpB)++zk (d.nodes.n:Int))++d.ns.flatMap zpg)++xr d.os)=zpo d):=by show _=_;unfold zpo zpK;simp only[List.append_assoc]
            have o5:Hid (Cat G D0 (l+k115) D9 (zpo d) C7):=by have h:=t7.out;rw[EB.out]at h;exact h
            have J5:(l+k115)=(zpo d).length:=o5.out.1.1.symm;have L2:Hid (Mth.Byt (zpo d)):=ztz d;have C9:=hid (zuS D0 (l+k115) D9 (zpo d) C7 (by have:=t6.out;omega) (o5.out.1.has L2.out))
            have J4:Hid ((l+k115)<=8000000):=by have:=t6.out;show _<=_;omega
            have K6:=hid J5;clear J5 t7 EB;go_wp2_with (first|fail|(at_builtin;refine yg rfl _ _ rfl rfl rfl j ?_))
            refine C9.out.mono ?_;rintro e w9 ⟨rfl,O8⟩;subst O8;obtain⟨S,hS⟩:∃S:Nat,S=Mth.crc (zpo d):=⟨_,rfl⟩;have f7:S<4294967296:=by rw[hS];exact Mth.crc_lt _
            rw[<-hS];have HS:=hid hS;clear hS C9 j;obtain⟨q1,hq1⟩:∃q,q=S/256:=⟨_,rfl⟩;obtain⟨q2,hq2⟩:∃q,q=S/65536:=⟨_,rfl⟩;obtain⟨q3,hq3⟩:∃q,q=S/16777216:=⟨_,rfl⟩;have k1:(S:Int)/2^8=(q1:Int):=by rw[show(2:Int)^8=256 from rfl];omega
            have k2:(S:Int)/2^16=(q2:Int):=by rw[show(2:Int)^16=65536 from rfl];omega
            have k3:(S:Int)/2^24=(q3:Int):=by rw[show(2:Int)^24=16777216 from rfl];omega
            have j1:(S:Int)/256=(q1:Int):=by omega
            have j2:(S:Int)/65536=(q2:Int):=by omega
            have j3:(S:Int)/16777216=(q3:Int):=by omega
            obtain⟨x0,hx0⟩:∃x,x=S%256:=⟨_,rfl⟩;obtain⟨x1,hx1⟩:∃x,x=q1%256:=⟨_,rfl⟩;obtain⟨x2,b7⟩:∃x,x=q2%256:=⟨_,rfl⟩;obtain⟨x3,hx3⟩:∃x,x=q3%256:=⟨_,rfl⟩;have c0:IntKind.u8.wrap (S:Int)=(x0:Int):=by rw[zqs];omega
            have c1:IntKind.u8.wrap (q1:Int)=(x1:Int):=by rw[zqs];omega
            have c2:IntKind.u8.wrap (q2:Int)=(x2:Int):=by rw[zqs];omega
            have c3:IntKind.u8.wrap (q3:Int)=(x3:Int):=by rw[zqs];omega
            obtain⟨a9,c9,w9,j,ho,hb⟩:=o5.out.1.four x0 x1 x2 x3 (by omega) (by omega) (by omega) (by omega) (by have:=J4.out;omega) o5.out.2.size
            have HE:Hid (BIs (zpJ d) w (.returned (.slice a9 ((l+k115)+4) c9)) w9):=by
             have e:zpJ d=zpo d++[(x0:Int),(x1:Int),(x2:Int),(x3:Int)]:=by unfold zpJ Mth.four;rw[<-HS.out,hx0,hx1,b7,hx3,hq1,hq2,hq3]
             have hl:(zpJ d).length=(zpo d).length+4:=by rw[e,List.length_append];rfl
             rw[<-K6.out]at hl;refine⟨a9,c9,by rw[hl],?_,fun h=>by omega,?_⟩
             ·rw[hl,e];exact ho.far E7.out.size
             ·exact zh E7.out (o5.out.2.trans hb)
            clear ho hb hq1 hq2 hq3 hx0 hx1 b7 hx3 f7 HS K6 o5 L2 g4 M F O r8 HM E7 J4;go_wp2_with (first|fail|(at_builtin;refine yg rfl _ _ rfl rfl rfl j ?_))
            go_ret;exact HE.out
end Go.Proofs.YtbmcgbmegcpgnaaGreat
