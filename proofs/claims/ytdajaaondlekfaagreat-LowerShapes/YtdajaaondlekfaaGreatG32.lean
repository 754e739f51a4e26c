import Derived.Test.YtdajaaondlekfaaGreatG31
import Derived.Test.YtdajaaondlekfaaGreatG26
import Derived.Test.YtdajaaondlekfaaGreatVFRef5
import Derived.Test.YtdajaaondlekfaaGreatVQDup2
import Derived.Test.YtdajaaondlekfaaGreatG22
set_option maxHeartbeats 16000000
set_option maxRecDepth 20000
set_option linter.unusedSimpArgs false
namespace Go.Proofs.YtdajaaondlekfaaGreat
open Go.RowKit
theorem zjN{d:PlanD}{w:World}(l:d.lie w)(h:d.p.little):d.fits:=by
 have c:∀{α β :Type} {L:List α} {f: α->β} {x: α},x∈L->f x∈L.map f:=fun b=>zoJ.2 ⟨_,b,rfl⟩
 have a:∀{α :Type} {k:Nat} {P: α->World->Nat->Nat->Prop} {w:World} {s:QSl} {S:List α},QRow k P w s S->∀y∈S,∃g o,P y w g o:=fun h y n=>by
  obtain⟨i,hi,rfl⟩:=zoR n;obtain⟨g,off,_,j⟩:=h.2 i _ (zoh hi);exact⟨g,_,j⟩
 refine⟨⟨?_,fun x b=>?_⟩,?_,⟨?_,fun x b=>?_⟩,⟨?_,fun x b=>?_⟩,⟨?_,fun x b=>?_⟩,⟨?_,fun x b=>?_⟩,?_⟩
 ·have:=h.hs;simp[PlanD.p,l.hs.1]at this;omega
 ·obtain⟨g,o,j⟩:=a l.hs x b;have:x.ws.length<=500:=h.hw _ (c b);have e:=j.2.1;omega
 ·have:=h.ms;simp[PlanD.p,l.ms.1]at this;omega
 ·have:=h.ss;simp[PlanD.p,l.ss.1]at this;omega
 ·obtain⟨g,o,j⟩:=a l.ss x b;have:x.cs.length<=500:=h.sc _ (c b);have e:=j.2.2.2.2.2.1;omega
 ·have:=h.al;simp[PlanD.p,l.al.1]at this;omega
 ·obtain⟨g,o,j⟩:=a l.al x b;have m:=h.aw _ (c b);have h2:x.ws.length<=500:=m.1;have r:(x.os.map OpD.p).length<=50:=m.2;rw[zoE]at r;have e:=j.2.2.1.1;have t:=j.2.2.2.1;refine⟨by omega,by omega,fun y n=>?_⟩
  obtain⟨A,C,q⟩:=a j.2.2.2 y n;have:y.es.length<=500:=h.ae _ (c b) _ (c n);have u:=q.2.2.2.2.2.1;omega
 ·have:=h.ts;simp[PlanD.p,l.ts.1]at this;omega
 ·obtain⟨g,o,j⟩:=a l.ts x b;have m:=h.tl _ (c b);have h2:x.ks.length<=500:=m.1;have r:x.al.length<=500:=m.2.1;have B:x.zs.length<=500:=m.2.2;have e:=j.2.2.2.2.2.2.1.1;have t:=j.2.2.2.2.2.2.2.1.1;have u:=j.2.2.2.2.2.2.2.2.1;omega
 ·have:=h.ns;simp[PlanD.p,l.ns.1]at this;omega
 ·obtain⟨g,o,j⟩:=a l.ns x b;have:x.es.length<=500:=h.ne _ (c b);have e:=j.2.2.2.2.2.1;omega
 ·have:=h.os;simp[PlanD.p,l.os.1]at this;omega
def wnP(p:PPlan)(a:Int):Int:=((p.al.getD a.toNat PAct.z).ws.length:Int)
def znx(p:PPlan)(t:PTab):ShapeD:=⟨(t.ks.length:Int),j7 (t.al.getD 0 0) t.al+1,t.al.foldl (fun m a=>mx m (wnP p a)) 0⟩
theorem zn1{d:PlanD}{w:World}(b:d.lie w)(a:Int):wnD d a=wnP d.p a:=by
 unfold wnD wnP;show _=(((d.al.map ActD.p).getD a.toNat PAct.z).ws.length:Int);rw[zoi,zoi,zoy];cases e:d.al[a.toNat]? with
 |none=>rfl
 |some x=>
  obtain⟨_,_,_,c⟩:=b.al.2 _ x e;show((x.w.n:Nat):Int)=((x.ws.length:Nat):Int);rw[c.2.2.1.1]
theorem zjO{d:PlanD}{w:World}(b:d.lie w):d.ts.map (kN d)=d.p.ts.map (znx d.p):=by
 show _=(d.ts.map TabD.p).map (znx d.p);rw[List.map_map];refine List.map_congr_left fun t f=>?_
 obtain⟨i,hi,rfl⟩:=zoR f;obtain⟨_,_,_,g⟩:=b.ts.2 i _ (zoh hi);have e:=g.2.2.2.2.2.2.1.1;show(⟨_,_,_⟩:ShapeD)=⟨_,_,_⟩;have h:(((d.ts[i]).keys.n:Nat):Int)=(((d.ts[i]).ks.length:Nat):Int):=by rw[e]
 have c:xj d (d.ts[i]).al=(d.ts[i]).al.foldl (fun m a=>mx m (wnP d.p a)) 0:=by
  unfold xj;have:(fun m a=>mx m (wnD d a))=fun m a=>mx m (wnP d.p a):=by
   funext m a
   rw[zn1 b a]
  rw[this]
 rw[h,c];rfl
theorem zcG{d:PlanD}{w:World}(j:d.lie w)(hs:d.small)(h:(zD d.p).1=0):zdw d:=by
 have A:(d.p.ts.length:Int)<=5:=(zB h 4 (by decide)).2.1
 have f:d.p.ts.length=d.ts.length:=zoE _;refine⟨fun t m=>?_,?_,hs.an,hs.aw⟩
 ·obtain⟨i,hi,rfl⟩:=zoR m;have c:=zfB h (i:=i) (by rw[f];exact hi)
  have e:d.p.ts.getD i PTab.z=(d.ts[i]).p:=by
   show(d.ts.map TabD.p).getD i PTab.z=_;rw[zoi,zoy,zoh hi];rfl
  rw[e]at c;have q:=hs.ts _ (List.getElem_mem hi);have o:1<=(d.ts[i]).al.length:=by
   have b:=c.store;unfold zJ at b;by_cases k:isK (d.ts[i]).p.kind=false
   ·rw[if_pos k]at b;exact absurd b (by decide)
   rw[if_neg k]at b;by_cases g:InC 1 (kr (d.ts[i]).p.kind) [(((d.ts[i]).p.ks.map (fun r=>d.p.width r [])).length:Int)]=false\/InC 1 4 [((d.ts[i]).p.al.length:Int)]=false
   ·rw[if_pos g]at b;exact absurd b (by decide)
   have s:InC 1 4 [((d.ts[i]).p.al.length:Int)]=true:=by simpa using fun l=>g (.inr l)
   have:=zcr s _ (List.mem_singleton.2 rfl);have y:(1:Int)<=((d.ts[i]).al.length:Int):=this.1;omega
  refine⟨o,by omega,?_,fun a ha=>?_⟩
  ·have x:(d.ts[i]).al.length<=4:=c.afew;omega
  ·have u:=c.acts a ha;have h7:d.p.al.length=d.acts.n:=by show(d.al.map ActD.p).length=_;rw[zoE];exact j.al.1
   exact⟨a.toNat,by omega,by omega⟩
 ·rw[<-j.ts.1];omega
theorem zfR{p:PPlan}{A:Int}(h:qp p 0 A):(zD p).1=0:=by
 rcases h with⟨_,h2⟩|⟨h,_⟩
 ·exact absurd rfl h2
 ·exact h
def zjP(d:PlanD)(C:Int)(w:World)(e:Ending)(w':World):Prop:=∃s:QSl,e=.returned (.slice s.a s.n s.c)/\(C≠0->s.n=0)/\(C=0->QRow 3 ShapeD.lie w' s (d.ts.map (kN d)))/\Below w.heap.size w w'
theorem zjQ(d:PlanD)(w:World)(t:d.lie w)(hs:d.small)(C A:Int)(hf:qp d.p C A):Calls Tryz.prog 7 #[d.v] w (zjP d C w):=by
 obtain⟨l,hW⟩:∃l,l=w.alloc d.box:=⟨_,rfl⟩;obtain⟨s,hs1⟩:∃s,s=w.heap.size:=⟨_,rfl⟩;have r:Below w.heap.size w l:=by rw[hW];exact ze (zof _ _)
 have g:l.heap[s]?=some (.cells #[.slice d.heads.a d.heads.n d.heads.c,.slice d.mta.a d.mta.n d.mta.c,.slice d.states.a d.states.n d.states.c,.slice d.acts.a d.acts.n d.acts.c,.slice d.tabs.a d.tabs.n d.tabs.c,.slice d.nodes.a d.nodes.n d.nodes.c,.slice d.out.a d.out.n d.out.c] 29 (0,0)):=by rw[hW,hs1];exact zK _ _ _
 have E:=(zj g 0).trans (rfl:_=some (Value.slice d.heads.a d.heads.n d.heads.c));have H:=(zj g 1).trans (rfl:_=some (Value.slice d.mta.a d.mta.n d.mta.c));have D:=(zj g 2).trans (rfl:_=some (Value.slice d.states.a d.states.n d.states.c));have G:=(zj g 3).trans (rfl:_=some (Value.slice d.acts.a d.acts.n d.acts.c));have L:=(zj g 4).trans (rfl:_=some (Value.slice d.tabs.a d.tabs.n d.tabs.c));have F:=(zj g 5).trans (rfl:_=some (Value.slice d.nodes.a d.nodes.n d.nodes.c));have M:=(zj g 6).trans (rfl:_=some (Value.slice d.out.a d.out.n d.out.c));have u:=(zoj.1 g).1;have q:=hid (zci d l (t.step r) hs);have k:Hid (C=0->∀w',Below l.heap.size l w'->Calls Tryz.prog 19 #[d.v] w' (zd3 d w')):=fun O w' b=>zg0 d w' ((t.step r).step b) (zcG t hs (zfR (by rw[<-O];exact hf)))
 have N:=hid hf;have B:=hid r;have T:=hid hW;have R:=hid hs1;clear t hs hf r hW hs1 g;dsimp only[PlanD.v,PlanD.box]at*;go_enter Tryz.func7,Tryz.ntmps7
 go_upto_region 1 with fail
 rw[<-T.out,<-R.out];have P:∀(C A:Int) (w':World),(Instr.field 34 (.agg #[.int .i64 C,.int .i64 A]) 0).run Tryz.prog w'=.ok (.int .i64 C) w':=fun C A w'=>by first|rfl|(simp[go_sem])
 go_wp2_with fail
 refine q.out.mono ?_;rintro e I ⟨U,W,rfl,m,f⟩;obtain⟨rfl,rfl⟩:=zch N.out m;have r0:=za E f;have r1:=za H f;have Y:=za D f;have Z:=za G f;have V:=za L f;have X:=za F f;have r6:=za M f;have K:=zom u f.size;have y:=hid f;have o:=hid (zh B.out f);clear E H D G L F M m q f;by_cases j:C=0
 ·have i:=hid (k.out j I y.out);have HC:=hid j;subst j;clear k;go_wp2_with fail
  refine i.out.mono ?_;rintro e Q ⟨sl,rfl,hr,_,J⟩;have x:=hid (show zjP d 0 w (.returned (.slice sl.a sl.n sl.c)) Q from⟨sl,rfl,fun h=>absurd rfl h,fun _=>hr,zh o.out J⟩)
  clear hr J i;go_wp2;exact bodyPost_ret (v:=.slice sl.a sl.n sl.c) (by simp[results,Tryz.results7,go_sem]) rfl x.out
 ·have HC:=hid j;have S:(C !=0)=true:=by simpa using j
  have x:=hid (show zjP d C w (.returned (.slice none 0 0)) I from⟨⟨none,0,0⟩,rfl,fun _=>rfl,fun h=>absurd h j,o.out⟩)
  clear k j;go_wp2;exact bodyPost_ret (v:=.slice none 0 0) (by simp[results,Tryz.results7,go_sem]) rfl x.out
theorem zeH{w:World}{s:QSl}{S:List ShapeD}(h:QRow 3 ShapeD.lie w s S){i:Nat}(hi:i<s.n):∃g off,s.a=some ⟨g,off,none⟩/\w.cell? ⟨g,off+i*3,none⟩=some (.int .i64 (S.getD i ⟨0,0,0⟩).keys)/\w.cell? ⟨g,off+i*3+1,none⟩=some (.int .i64 (S.getD i ⟨0,0,0⟩).acts)/\w.cell? ⟨g,off+i*3+2,none⟩=some (.int .i64 (S.getD i ⟨0,0,0⟩).args):=by
 obtain⟨g,off,x,d,c,b⟩:=zV h hi;have e:S.getD i ⟨0,0,0⟩=x:=by rw[zoi,c];rfl
 rw[e];exact⟨g,off,d,b.1.1,b.2.1.1,b.2.2.1⟩
theorem lowershapes_main(d:PlanD)(w:World)(hl:d.lie w)(h0:d.nil0):Calls Tryz.prog 3 #[d.v] w fun e w'=>e=.returned (.bool true)/\Below w.heap.size w w':=by
 obtain⟨l,hW⟩:∃l,l=w.alloc d.box:=⟨_,rfl⟩;obtain⟨s,hs⟩:∃s,s=w.heap.size:=⟨_,rfl⟩;have hc:l.cell? ⟨s,0,none⟩=some (.slice d.heads.a d.heads.n d.heads.c)/\l.cell? ⟨s,1,none⟩=some (.slice d.mta.a d.mta.n d.mta.c)/\l.cell? ⟨s,2,none⟩=some (.slice d.states.a d.states.n d.states.c)/\l.cell? ⟨s,3,none⟩=some (.slice d.acts.a d.acts.n d.acts.c)/\l.cell? ⟨s,4,none⟩=some (.slice d.tabs.a d.tabs.n d.tabs.c)/\l.cell? ⟨s,5,none⟩=some (.slice d.nodes.a d.nodes.n d.nodes.c)/\l.cell? ⟨s,6,none⟩=some (.slice d.out.a d.out.n d.out.c):=by rw[hW,hs];exact⟨by simp,by simp,by simp,by simp,by simp,by simp,by simp⟩
 have a4:Hid (Below w.heap.size w l):=by rw[hW];exact ze (zof _ _)
 have EW:=hid hW;have ES:=hid hs;have h:=hid hl;have H0:=hid h0;have HC:=hid hc;have Z:=hid (zmR l);clear hW hs hc hl h0;go_enter Tryz.func3,Tryz.ntmps3
 go_wp2_with fail
 rw[<-EW.out,<-ES.out];refine Z.out.mono ?_;rintro e w1 ⟨rfl,t⟩;clear EW ES Z;have L:=hid (zh a4.out t);have a8:=hid (kW HC.out t);obtain⟨z0,z1,Q,F,O,R,T⟩:=kW HC.out t;have f:=zog _ _ z0;have a5:=hid (zf0 d w1 (h.out.step L.out));clear t a4 HC;go_wp2_with fail
 refine a5.out.mono ?_;rintro e w2 ⟨b,rfl,hg,M⟩;have B:=hid (zh L.out M);have H:=hid (kW a8.out M);have HG:=hid hg;clear M L a5 z0 z1 Q F O R T hg a8 f;obtain⟨z0,z1,Q,F,O,R,T⟩:=H.out;have f:=zog _ _ z0;cases b with
 |true=>
  go_wp2;go_ret;exact⟨rfl,B.out⟩
 |false=>
  have j:=HG.out rfl;have a7:=hid (zfF d w2 (h.out.step B.out) j);have q:=hid j;clear j HG;go_wp2_with fail
  refine a7.out.mono ?_;rintro e w3 ⟨C,A,sa,sn,sc,rfl,hi,_,_,E⟩;obtain⟨X,hW4⟩:∃X,X=w3.alloc (.cells #[.int .i64 C,.int .i64 A] 34):=⟨_,rfl⟩;obtain⟨fb,hfb⟩:∃b,b=w3.heap.size:=⟨_,rfl⟩;have b4:Below w3.heap.size w3 X:=by rw[hW4];exact ze (zof _ _)
  have f0:X.cell? ⟨fb,0,none⟩=some (.int .i64 C):=by rw[hW4,hfb];simp
  have Y:=hid (zh B.out (zh E b4));have D:=hid (kW H.out (zh E b4));have HI:=hid hi;have HD:=hid (zj7 d X (h.out.step Y.out) H0.out (zjN h.out q.out));have b9:=hid hW4;have EF:=hid hfb;have F0:=hid f0;clear hi E b4 hW4 hfb a7 z0 z1 Q F O R T f H f0;obtain⟨z0,z1,Q,F,O,R,T⟩:=D.out;have f:=zog _ _ z0;go_upto_region 6 with fail
  rw[<-b9.out,<-EF.out];go_wp2_with fail
  refine HD.out.mono ?_;rintro e w5 ⟨d1,rfl,m,b6,x,y⟩;have g:d1.p.little:=by rw[x];exact q.out
  have W:=hid (zjQ d1 w5 m (zbk m g) C A (by rw[x];exact HI.out))
  have a3:=hid (zh Y.out y);have a1:=hid (kW D.out y);have F5:=hid (za F0.out y);have a9:Hid (d1.ts.map (kN d1)=d.ts.map (kN d)):=by
   show _=_;rw[zjO m,zjO h.out,x]
  clear m b6 x y g HD z0 z1 Q F O R T f D F0 B;go_wp2_with fail
  refine W.out.mono ?_;rintro e w6 ⟨sl,rfl,V,hr,r⟩;rw[a9.out]at hr;have f0:=za F5.out r;have b8:=zog _ _ f0;have u:=hid (zh a3.out r);have U:=hid (kW a1.out r);clear r W a9 a1 F5 a3;by_cases K:C=0
  ·have hr:=hr K;have o:=HI.out;rw[K]at o;have a0:=hid (zlG d w6 (h.out.step u.out) (zcG h.out (zbk h.out q.out) (zfR o)));have HR:=hid hr;have b3:=hid (zfR o);subst K;obtain⟨z0,z1,Q,F,O,R,T⟩:=U.out;have f:=zog _ _ z0;clear hr V o HI U;go_wp2_with fail
   refine a0.out.mono ?_;rintro e w7 ⟨tl,rfl,S,_,P⟩;have G:=HR.out.step ShapeD.keeps P;have b0:=hid (zh u.out P);have I:=G.1;have a6:=S.1;have N:tl.n=sl.n:=a6.symm.trans I;have c5:sl.n<=1000:=by
    have h5:=(zcG h.out (zbk h.out q.out) b3.out).tn;have:d.tabs.n=d.ts.length:=h.out.ts.1.symm;rw[zoE]at I;omega
   have b5:=hid G;have b1:=hid S;obtain⟨ta,tn,tc⟩:=tl;have N:tn=sl.n:=N;subst N;clear G S I a6 P a0 HR u z0 z1 Q F O R T f f0 b8;generalize d.ts.map (kN d)=SH at*;go_wp2;go_loopw [7] (fun k wr=>∃i:Nat,i<=sl.n/\k=.int .i64 i/\Hid (Below w7.heap.size w7 wr)) (fun k _=>sl.n-(intOf k).toNat)
   case atStart=>exact⟨0,zon _,rfl,zof _ _⟩
   case round=>
    obtain⟨i,hi,rfl,J⟩:=hrel;by_cases a2:i<sl.n
    ·have b2:(i:Int)<(sl.n:Int):=by omega
     obtain⟨g1,o1,e1,x0,x1,x2⟩:=zeH (b5.out.step ShapeD.keeps J.out) a2;obtain⟨g2,o2,e2,y0,y1,y2⟩:=zeH (b1.out.step ShapeD.keeps J.out) (show i<sl.n from a2)
     have c1:=zog _ _ x0;have c2:=zog _ _ y0;have e2:ta=some ⟨g2,o2,none⟩:=e2;subst e2;rw[e1];have E1:=hid e1;have JN:=hid J.out.drew;clear e1 J;generalize(SH.getD i ⟨0,0,0⟩).keys=v0 at*;generalize(SH.getD i ⟨0,0,0⟩).acts=v1 at*;generalize(SH.getD i ⟨0,0,0⟩).args=v2 at*;go_wp2_with fail
     go_region
     all_goals
      go_wp2;go_roundw
      case rel=>exact⟨i+1,by omega,by go_num,JN.out⟩
      case measure=>simp[intOf];omega
    ·have b2:¬(i:Int)<(sl.n:Int):=by omega
     have HE:=hid (zh b0.out J.out);clear J;go_wp2;go_ret;exact⟨rfl,HE.out⟩
  ·have V:=V K;have c3:(C !=0)=true:=by simpa using K
   obtain⟨c4,b7,c0⟩:=sl;have V:b7=0:=V;subst V;have c6:=hid K;clear K hr U;go_wp2;go_ret;exact⟨rfl,u.out⟩
end Go.Proofs.YtdajaaondlekfaaGreat
