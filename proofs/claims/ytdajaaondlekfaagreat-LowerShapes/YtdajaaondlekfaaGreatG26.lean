import Derived.Test.YtdajaaondlekfaaGreatG22
import Derived.Test.YtdajaaondlekfaaGreatG25
import Derived.Test.YtdajaaondlekfaaGreatG23
import Derived.Deep.CutRange
import Derived.Test.YtdajaaondlekfaaGreatVFGo
set_option maxHeartbeats 16000000
set_option maxRecDepth 20000
set_option linter.unusedSimpArgs false
namespace Go.Proofs.YtdajaaondlekfaaGreat
open Go.RowKit
def zaa(l:List Int):Int:=l.foldl (fun m a=>mx m (a+1)) 0
theorem zhX{l:List Int}{i:Nat}(h:i<l.length):zaa (l.take (i+1))=mx (zaa (l.take i)) (l.getD i 0+1):=by
 unfold zaa;rw[zoI,zoh h,List.foldl_append,zoi,zoh h];rfl
theorem zhY(l:List Int):∀m:Int,l.foldl (fun m a=>mx m (a+1)) (m+1)=j7 m l+1:=by
 induction l with
 |nil=>intro m;rfl
 |cons a l ih=>
  intro m;show l.foldl (fun m a=>mx m (a+1)) (mx (m+1) (a+1))=j7 (mx m a) l+1
  rw[<-ih];congr 1
  unfold mx;split<;>split<;>omega
theorem zlF{l:List Int}(c:1<=l.length)(h0:∀a∈l,0<=a):zaa l=j7 (l.getD 0 0) l+1:=by
 cases l with
 |nil=>simp at c
 |cons a l=>
  have ha:=h0 a (by simp)
  have d:mx 0 (a+1)=a+1:=by unfold mx;rw[if_pos (by omega)]
  have b:mx a a=a:=by unfold mx;rw[if_neg (by omega)]
  show l.foldl (fun m a=>mx m (a+1)) (mx 0 (a+1))=j7 (mx a a) l+1
  rw[d,b];exact zhY l a
theorem zlG(d:PlanD)(w:World)(hl:d.lie w)(hr:zdw d):Calls Tryz.prog 9 #[d.v] w (zd3 d w):=by
 obtain⟨pb,hpb⟩:∃b,b=w.heap.size:=⟨_,rfl⟩;obtain⟨C,hW2⟩:∃C,C=w.alloc (.cells #[.slice d.heads.a d.heads.n d.heads.c,.slice d.mta.a d.mta.n d.mta.c,.slice d.states.a d.states.n d.states.c,.slice d.acts.a d.acts.n d.acts.c,.slice d.tabs.a d.tabs.n d.tabs.c,.slice d.nodes.a d.nodes.n d.nodes.c,.slice d.out.a d.out.n d.out.c] 29):=⟨_,rfl⟩;have b2:Below w.heap.size w C:=by rw[hW2];exact ze (zof _ _)
 have hP:C.heap[pb]?=some (.cells #[.slice d.heads.a d.heads.n d.heads.c,.slice d.mta.a d.mta.n d.mta.c,.slice d.states.a d.states.n d.states.c,.slice d.acts.a d.acts.n d.acts.c,.slice d.tabs.a d.tabs.n d.tabs.c,.slice d.nodes.a d.nodes.n d.nodes.c,.slice d.out.a d.out.n d.out.c] 29 (0,0)):=by rw[hW2,hpb];exact zK _ _ _
 have O:Hid (∀w',Below C.heap.size C w'->w'.heap[pb]?=some (.cells #[.slice d.heads.a d.heads.n d.heads.c,.slice d.mta.a d.mta.n d.mta.c,.slice d.states.a d.states.n d.states.c,.slice d.acts.a d.acts.n d.acts.c,.slice d.tabs.a d.tabs.n d.tabs.c,.slice d.nodes.a d.nodes.n d.nodes.c,.slice d.out.a d.out.n d.out.c] 29 (0,0))):=fun w' h=>(h.block pb (zoj.1 hP).1).trans hP
 have a7:Hid (∀w',Below C.heap.size C w'->d.lie w'):=fun w' h=>(hl.step b2).step h
 have c9:=hid b2;have HR:=hid hr;have EW:=hid hW2;have EP:=hid hpb;have T:Hid (d.ts.length=d.tabs.n):=hl.ts.1;have e4:=hr.tn;clear hl hr hW2 hpb b2 hP;dsimp only[PlanD.v];go_enter Tryz.func9,Tryz.ntmps9
 go_upto_region 1 with fail
 rw[<-EW.out,<-EP.out];go_wp2;go_loopw [4,3,5,6,7] (fun k l _ _ _ wr=>∃i:Nat,i<=d.tabs.n/\k=.int .i64 i/\∃la lc,l=.slice la i lc/\Hid (ShR C ((d.ts.take i).map (kN d)) la lc wr)) (fun k _ _ _ _ _=>d.tabs.n-(intOf k).toNat)
 case atStart=>exact⟨0,zon _,rfl,none,0,rfl,⟨zoH _ _ _ _,zof _ _⟩⟩
 case round=>
  obtain⟨i,hi,rfl,la,lc,rfl,J⟩:=hrel;obtain⟨f,hW0⟩:∃f,f=wr:=⟨_,rfl⟩;have H:=hid hW0;clear hW0;have c4:=(zj (O.out wr J.out.bel) 4).trans (rfl:_=some (Value.slice d.tabs.a d.tabs.n d.tabs.c));have b0:=(zoj.1 (O.out wr J.out.bel)).1;by_cases c5:i<d.tabs.n
  ·have c3:(i:Int)<(d.tabs.n:Int):=by omega
   obtain⟨g,off,t,ea,ht,hp⟩:=zV (a7.out wr J.out.bel).ts c5;have hm:=zol ht;have V:=HR.out.ts t hm;obtain⟨⟨x0,_⟩,⟨x1,_⟩,⟨x2,_⟩,⟨x3,_⟩,⟨x4,_⟩,⟨x5,_⟩,_,R,_⟩:=hp;have e2:=zog _ _ x1;have h1:=V.one;have h2:=V.na;have a3:=R.1;have h0:∀a∈t.al,0<=a:=fun a ha=>by obtain⟨k,rfl,_⟩:=V.ac a ha;omega
   have c2:Hid (kN d t=⟨(t.keys.n:Int),zaa t.al,xj d t.al⟩):=by show _=_;rw[zlF h1 h0];rfl
   obtain⟨sb,hsb⟩:∃b,b=wr.heap.size:=⟨_,rfl⟩;obtain⟨W5,hW5⟩:∃W5,W5=wr.alloc (.cells #[.int .i64 (t.keys.n:Int),.int .i64 0,.int .i64 0] 41):=⟨_,rfl⟩;have B5:Below wr.heap.size wr W5:=by rw[hW5];exact ze (zof _ _)
   have Z:Hid (W5.heap[sb]?=some (.cells #[.int .i64 (t.keys.n:Int),.int .i64 (zaa (t.al.take 0)),.int .i64 (xj d (t.al.take 0))] 41 (0,0))):=by show _=_;rw[hW5,hsb];exact zK _ _ _
   have a5:Hid (Below f.heap.size f W5):=by show Below _ _ _;rw[H.out];exact B5
   have J4:Hid (ShR C ((d.ts.take i).map (kN d)) la lc f):=by rw[H.out];exact J.out
   have c0:Hid (∀w',Below f.heap.size f w'->w'.cell? ⟨g,off+i*6+2,none⟩=some (.slice t.acts.a t.acts.n t.acts.c)):=fun w' b=>za x2 (by rw[<-H.out];exact b)
   have b6:Hid (∀w',Below f.heap.size f w'->Has .i64 w' t.acts.a t.acts.n t.al):=fun w' b=>R.step (by rw[<-H.out];exact b)
   have Y:Hid (∀w',Below f.heap.size f w'->w'.heap[pb]?=some (.cells #[.slice d.heads.a d.heads.n d.heads.c,.slice d.mta.a d.mta.n d.mta.c,.slice d.states.a d.states.n d.states.c,.slice d.acts.a d.acts.n d.acts.c,.slice d.tabs.a d.tabs.n d.tabs.c,.slice d.nodes.a d.nodes.n d.nodes.c,.slice d.out.a d.out.n d.out.c] 29 (0,0))):=fun w' b=>O.out w' (zh J4.out.bel b)
   have a1:Hid (∀w',Below f.heap.size f w'->d.lie w'):=fun w' b=>a7.out w' (zh J4.out.bel b)
   have P:Hid (f.heap.size<=sb):=by show _<=_;rw[H.out];omega
   have c8:=hid hW5;have b5:=hid hsb;have EA:=hid ea;have c1:=hid ht;have a4:=hid a3;have b9:=hid V.ac;have d4:t.acts.n<=10000:=by omega
   have d5:=V.ka;rw[ea]at c4;clear ht hm V J R hW5 hsb ea B5 a3 h1 h2 h0;go_upto_region 6 with fail
   rw[<-c8.out,<-b5.out];clear x0 x1 x2 x3 x4 x5 c4 b0;go_wp2;go_loopw [6,7] (fun k _ B=>∃j:Nat,j<=t.acts.n/\k=.int .i64 j/\Hid (B.heap[sb]?=some (.cells #[.int .i64 (t.keys.n:Int),.int .i64 (zaa (t.al.take j)),.int .i64 (xj d (t.al.take j))] 41 (0,0))/\Below f.heap.size f B)) (fun k _ _=>t.acts.n-(intOf k).toNat)
   case atStart=>exact⟨0,zon _,rfl,Z.out,a5.out⟩
   case round=>
    obtain⟨j,hj,rfl,JJ⟩:=hrel;obtain⟨y,JB⟩:=JJ.out;clear Z a5;have tc:=c0.out wr JB;have d8:=zog _ _ tc;have G:=Y.out wr JB;have p3:=(zj G 3).trans (rfl:_=some (Value.slice d.acts.a d.acts.n d.acts.c));have p4:=(zj G 4).trans (rfl:_=some (Value.slice d.tabs.a d.tabs.n d.tabs.c));have b0:=(zoj.1 G).1;rw[EA.out]at p4;by_cases b3:j<t.acts.n
    ·have b8:(j:Int)<(t.acts.n:Int):=by omega
     obtain⟨g3,d2,U,e1,F⟩:=(b6.out wr JB).some (by omega)
     have K:j<t.al.length:=by rw[a4.out];exact b3
     obtain⟨k,hk,a0⟩:=b9.out (t.al.getD j 0) (by rw[zoi,zoh K];exact List.getElem_mem _)
     have cj:=F j b3;rw[hk]at cj;obtain⟨ag,ao,x,I,b4,a9⟩:=zV (a1.out wr JB).al a0;have cw:wr.cell? ⟨ag,ao+k*2,none⟩=some (.slice x.w.a x.w.n x.w.c):=a9.1.1;have d0:=zog _ _ cw;have d1:¬ag=sb:=by
      obtain⟨c6,e5,x',N,_,a2⟩:=zV (a1.out f (zof _ _)).al a0;rw[I]at N;simp only[zoo,Addr.mk.injEq,and_true]at N;have h5:c6<f.heap.size:=zog _ _ a2.1.1;have:=P.out;omega
     have d3:¬pb=sb:=by
      have h5:=(zoj.1 (Y.out f (zof _ _))).1;have:=P.out;omega
     rw[I]at p3;have s1:=(zj y 1).trans (rfl:_=some (Value.int .i64 (zaa (t.al.take j))));have s2:=(zj y 2).trans (rfl:_=some (Value.int .i64 (xj d (t.al.take j))));have e3:wr.frozen? ⟨sb,1,none⟩=false:=by simp[World.frozen?,y]
     have d6:wr.frozen? ⟨sb,2,none⟩=false:=by simp[World.frozen?,y]
     have b7:=(zoj.1 y).1;have e0:(k:Int)<(d.acts.n:Int):=by omega
     have d7:k<10000:=by have:=HR.out.an;omega
     have X:xj d (t.al.take (j+1))=mx (xj d (t.al.take j)) (x.w.n:Int):=by
      rw[zdv K,hk];show mx _ ((d.al.getD k ActD.z).w.n:Int)=_;rw[zoi,b4];rfl
     have a6:zaa (t.al.take (j+1))=mx (zaa (t.al.take j)) ((k:Int)+1):=by rw[zhX K,hk]
     have s:Hid (∀B,Below f.heap.size f B->B.heap[sb]?=some (.cells #[.int .i64 (t.keys.n:Int),.int .i64 (mx (zaa (t.al.take j)) ((k:Int)+1)),.int .i64 (mx (xj d (t.al.take j)) (x.w.n:Int))] 41 (0,0))->(B.heap[sb]?=some (.cells #[.int .i64 (t.keys.n:Int),.int .i64 (zaa (t.al.take (j+1))),.int .i64 (xj d (t.al.take (j+1)))] 41 (0,0))/\Below f.heap.size f B)):=fun B hb hz=>⟨by rw[X,a6];exact hz,hb⟩
     have o:=hid JB;have E:=hid y;have A:Hid (∀v,(wr.setCell ⟨sb,1,none⟩ v).heap[sb]?=some (.cells #[.int .i64 (t.keys.n:Int),v,.int .i64 (xj d (t.al.take j))] 41 (0,0))):=fun v=>by have:=yx y 1 v;simpa using this
     have D:Hid (∀v,(wr.setCell ⟨sb,2,none⟩ v).heap[sb]?=some (.cells #[.int .i64 (t.keys.n:Int),.int .i64 (zaa (t.al.take j)),v] 41 (0,0))):=fun v=>by have:=yx y 2 v;simpa using this
     have r:Hid (∀v u,((wr.setCell ⟨sb,1,none⟩ v).setCell ⟨sb,2,none⟩ u).heap[sb]?=some (.cells #[.int .i64 (t.keys.n:Int),v,u] 41 (0,0))):=fun v u=>by have:=yx (A.out v) 2 u;simpa using this
     have m:Hid (∀B i v,Below f.heap.size f B->Below f.heap.size f (B.setCell ⟨sb,i,none⟩ v)):=fun B i v hb=>hb.setCell (p:=⟨sb,i,none⟩) P.out v
     rw[U]at tc;have e6:=hid U;have d9:=hid I;obtain⟨k1,hk1⟩:∃q:Nat,q=k+1:=⟨_,rfl⟩;have b1:(k:Int)+1=(k1:Int):=by omega
     have e7:IntKind.i64.wrap ((k:Int)+1)=(k1:Int):=by rw[b1];exact zX _ (by omega) (by omega)
     rw[b1]at s;clear F U hk I b4 a9 G X a6 y JB JJ K hk1;generalize xj d (t.al.take j)=ar at*;generalize zaa (t.al.take j)=am at*;unfold mx at s;by_cases ha:am<(k1:Int)
     ·by_cases hb:ar<(x.w.n:Int)
      ·rw[if_pos ha,if_pos hb]at s;have S:=hid (s.out ((wr.setCell ⟨sb,1,none⟩ (.int .i64 (k1:Int))).setCell ⟨sb,2,none⟩ (.int .i64 (x.w.n:Int))).drew (m.out _ 2 _ (m.out _ 1 _ o.out)).drew (r.out _ _));clear s A D r m E o;go_wp2_with fail
       go_region
       all_goals
        go_wp2;go_roundw
        case rel=>exact⟨j+1,by omega,by go_num,S.out⟩
        case measure=>simp[intOf];omega
      ·rw[if_pos ha,if_neg hb]at s;have S:=hid (s.out (wr.setCell ⟨sb,1,none⟩ (.int .i64 (k1:Int))).drew (m.out _ 1 _ o.out).drew (A.out _));clear s A D r m E o;go_wp2_with fail
       go_region
       all_goals
        go_wp2;go_roundw
        case rel=>exact⟨j+1,by omega,by go_num,S.out⟩
        case measure=>simp[intOf];omega
     ·by_cases hb:ar<(x.w.n:Int)
      ·rw[if_neg ha,if_pos hb]at s;have S:=hid (s.out (wr.setCell ⟨sb,2,none⟩ (.int .i64 (x.w.n:Int))).drew (m.out _ 2 _ o.out).drew (D.out _));clear s A D r m E o;go_wp2_with fail
       go_region
       all_goals
        go_wp2;go_roundw
        case rel=>exact⟨j+1,by omega,by go_num,S.out⟩
        case measure=>simp[intOf];omega
      ·rw[if_neg ha,if_neg hb]at s;have S:=hid (s.out wr.drew o.out.drew E.out);clear s A D r m E o;go_wp2_with fail
       go_region
       all_goals
        go_wp2;go_roundw
        case rel=>exact⟨j+1,by omega,by go_num,S.out⟩
        case measure=>simp[intOf];omega
    ·have b8:¬(j:Int)<(t.acts.n:Int):=by omega
     obtain rfl:j=t.acts.n:=by omega
     have W:t.al.take t.acts.n=t.al:=by rw[<-a4.out,List.take_length]
     rw[W]at y;have s0:=(zj y 0).trans (rfl:_=some (Value.int .i64 (t.keys.n:Int)));have s1:=(zj y 1).trans (rfl:_=some (Value.int .i64 (zaa t.al)));have s2:=(zj y 2).trans (rfl:_=some (Value.int .i64 (xj d t.al)));have b7:=(zoj.1 y).1;have Q:((d.ts.take i).map (kN d)).length=i:=by rw[zoE,List.length_take,T.out];omega
     obtain⟨g4,a8,w9,M,SH⟩:=(J4.out.step JB).push ⟨(t.keys.n:Int),zaa t.al,xj d t.al⟩ (by rw[Q];omega)
     rw[Q]at M;have s:Hid (ShR C ((d.ts.take (i+1)).map (kN d)) (some ⟨g4,0,none⟩) a8 w9):=by
      rw[zoI,c1.out,List.map_append];show ShR C ((d.ts.take i).map (kN d)++[kN d t]) _ _ _;rw[c2.out];exact SH
     clear y JB JJ SH W Q G;generalize xj d t.al=ar at*;generalize zaa t.al=am at*;go_wp2_with (at_builtin;refine jj rfl _ _ rfl rfl rfl M ?_)
     go_roundw
     case rel=>exact⟨i+1,by omega,by go_num,_,_,rfl,s.out⟩
     case measure=>simp[intOf];omega
  ·have c3:¬(i:Int)<(d.tabs.n:Int):=by omega
   obtain rfl:i=d.tabs.n:=by omega
   have e:d.ts.take d.tabs.n=d.ts:=by rw[<-T.out,List.take_length]
   have HJ:=J.out;rw[e]at HJ;have L:=hid (HJ.is c9.out HR.out);rw[zoE,T.out]at L;clear J HJ e;go_wp2;exact bodyPost_ret (v:=.slice la d.tabs.n lc) (by simp[results,Tryz.results9,go_sem]) rfl L.out
def yX(p:PPlan)(s:Nat)(x:PNode)(w:World)(e:Ending)(w':World):Prop:=e=.returned (.tuple #[.int .u64 (jd p s x:Nat),.int .u64 (noN s x:Nat),.bool (!yB p s x)])/\Below w.heap.size w w'
theorem zex(d:PlanD)(s:Nat)(k:Int){w:World}(f:d.lie w)(i:(zD d.p).1=0)(hs:s<2^64)(c:0<=k/\k<(d.p.al.length:Int)):
 Calls Tryz.prog 32 #[d.v,.int .i64 k,.int .u64 (s:Int)] w (jf s (zG d.p k) w):=by
 obtain⟨n,a,rfl,h,g,e⟩:=zi8 f c;have b:=zi9 i c;rw[e]at b ⊢;exact zjm d s n a f hs h g b.1 b.2
def BoxAt(d:PlanD)(b:Nat)(w:World):Prop:=w.cell? ⟨b,0,none⟩=some (.slice d.heads.a d.heads.n d.heads.c)/\w.cell? ⟨b,1,none⟩=some (.slice d.mta.a d.mta.n d.mta.c)/\w.cell? ⟨b,2,none⟩=some (.slice d.states.a d.states.n d.states.c)/\w.cell? ⟨b,3,none⟩=some (.slice d.acts.a d.acts.n d.acts.c)/\w.cell? ⟨b,4,none⟩=some (.slice d.tabs.a d.tabs.n d.tabs.c)/\w.cell? ⟨b,5,none⟩=some (.slice d.nodes.a d.nodes.n d.nodes.c)/\w.cell? ⟨b,6,none⟩=some (.slice d.out.a d.out.n d.out.c)
theorem BoxAt.step{d:PlanD}{b:Nat}{w w':World}(h:BoxAt d b w)(k:Below w.heap.size w w'):BoxAt d b w':=by
 obtain⟨h0,g,h2,c,e,f,a⟩:=h;exact⟨za h0 k,za g k,za h2 k,za c k,za e k,za f k,za a k⟩
theorem zdi(d:PlanD)(w:World):BoxAt d w.heap.size (w.alloc d.box):=by
 refine⟨?_,?_,?_,?_,?_,?_,?_⟩<;>exact(zod _ _ _ _ rfl).trans rfl
theorem zhA{d:PlanD}{w:World}(b:d.lie w){k:Nat}(c:k<d.nodes.n):∃x,d.ns[k]?=some x/\d.p.ns.getD k PNode.z=x.p:=by
 have a:k<d.ns.length:=by rw[b.ns.1];exact c
 refine⟨d.ns[k],zoh a,?_⟩;unfold PlanD.p;simp only[zoi,zoy,zoh a,Option.map_some,zoC]
structure BnAt (d : PlanD) (x : NodeD) (w W : World) (b b' : Nat) : Prop where
 box : BoxAt d b W
 c0 : W.cell? ⟨b', 0, none⟩ = some (.int .i64 x.kind)
 c1 : W.cell? ⟨b', 1, none⟩ = some (.int .i64 x.n)
 c2 : W.cell? ⟨b', 2, none⟩ = some (.slice x.e.a x.e.n x.e.c)
 bl : Below w.heap.size w W
theorem zdj(d:PlanD)(s k:Nat)(x:NodeD){w:World}(hl:d.lie w)(hc:(zD d.p).1=0)(hs:s<2^64)(hk:k<d.nodes.n)(hx:d.ns[k]?=some x)(ho:zaH d.p k x.p):
 Calls Tryz.prog 16 #[d.v,.int .i64 (k:Int),.int .u64 (s:Int)] w (yX d.p s x.p w):=by
 obtain⟨ng,no,x',en,a5,hp⟩:=zu hl.ns hk;obtain rfl:x=x':=by rw[hx]at a5;exact zoq a5
 obtain⟨⟨t0,_⟩,⟨t1,_⟩,⟨t2,_⟩,⟨t3,_⟩,⟨t4,_⟩,d0⟩:=hp;obtain⟨W1,hW1⟩:∃W1,W1=w.alloc d.box:=⟨_,rfl⟩;obtain⟨b,hb⟩:∃b,b=w.heap.size:=⟨_,rfl⟩;have b1:Below w.heap.size w W1:=by rw[hW1];exact ze (zof _ _)
 have Y:BoxAt d b W1:=by rw[hW1,hb];exact zdi d w
 obtain⟨F,hW2⟩:∃F,F=W1.alloc (.cells #[.int .i64 x.kind,.int .i64 x.n,.slice x.e.a x.e.n x.e.c,.int .i64 x.yes,.int .i64 x.no] 71):=⟨_,rfl⟩;obtain⟨b',hb'⟩:∃b',b'=W1.heap.size:=⟨_,rfl⟩;have b2:Below W1.heap.size W1 F:=by rw[hW2];exact ze (zof _ _)
 have c3:BnAt d x w F b b':=⟨Y.step b2,by rw[hW2,hb'];exact(zod _ _ _ _ rfl).trans rfl,by rw[hW2,hb'];exact(zod _ _ _ _ rfl).trans rfl,by rw[hW2,hb'];exact(zod _ _ _ _ rfl).trans rfl,zh b1 b2⟩
 have g7:b<W1.heap.size:=zog _ _ Y.1;have z5:=Y.2.2.2.2.2.1;rw[en]at z5;have u0:=za t0 b1;have u1:=za t1 b1;have u2:=za t2 b1;have u3:=za t3 b1;have u4:=za t4 b1;have i1:(k:Int)<(d.nodes.n:Int):=by omega
 have h4:(0:Int)<=(k:Int):=by omega
 have h6:(d.p.hs.length:Int)<=6:=(zB hc 0 (by decide)).2.1
 have m:=hid c3;have A:=hid hW1;have D:=hid hW2;have EB:=hid hb;have u:=hid hb';have HL:=hid hl;have HC:=hid hc;have U:=hid hs;have H:=hid d0;have HO:=hid ho;have HD:Hid (∀w' (y n:Nat) (B:Bool),y=jd d.p s x.p->n=noN s x.p->B=(!yB d.p s x.p)->Below w.heap.size w w'->yX d.p s x.p w (.returned (.tuple #[.int .u64 (y:Int),.int .u64 (n:Int),.bool B])) w'):=fun w' y n B h1 h2 h3 h=>⟨by rw[h1,h2,h3],h⟩
 have g:x.kind=1\/x.kind=2\/x.kind=3\/x.kind=4:=ho.kind;clear hl hc hs hx a5 ho d0 hW1 hW2 hb hb' b1 b2 Y c3 en hk t0 t1 t2 t3 t4;rcases g with g|g|g|g
 ·have hn:0<=x.n/\x.n<(d.p.ts.length:Int):=HO.out.tab g;have f7:d.p.ts.length=d.tabs.n:=by simp[PlanD.p,HL.out.ts.1]
  obtain⟨tg,tf,t,et,d6,g2⟩:=zu (HL.out.step m.out.bl).ts (i:=x.n.toNat) (by omega)
  have X:jU d.p x.n=t.p:=by
   unfold jU PlanD.p;simp only[zoi,zoy,d6,Option.map_some,zoC]
  have J:zgL d.p t.p:=by have:=zfB HC.out (i:=x.n.toNat) (by omega);rwa[show d.p.ts.getD x.n.toNat PTab.z=t.p from X]at this
  have Q:jd d.p s x.p=yd d.p s t.al:=by unfold jd;rw[if_pos (show x.p.kind=1 from g)];show yd d.p s (jU d.p x.n).al=_;rw[X];rfl
  have S:noN s x.p=s:=by unfold noN;rw[if_neg (show¬x.p.kind=4 by show¬x.kind=4;omega)]
  have M:yB d.p s x.p=(yD s t.ks&&t.al.all (fun k=>zH s (zG d.p k))):=by unfold yB;rw[if_pos (show x.p.kind=1 from g)];show(yD s (jU d.p x.n).ks&&(jU d.p x.n).al.all _)=_;rw[X];rfl
  obtain⟨⟨v0,_⟩,⟨v1,_⟩,⟨v2,_⟩,⟨v3,_⟩,⟨v4,_⟩,⟨v5,_⟩,a8,a7,_⟩:=g2;obtain⟨o,hW3⟩:∃o,o=F.alloc (.cells #[.int .i64 t.kind,.slice t.keys.a t.keys.n t.keys.c,.slice t.acts.a t.acts.n t.acts.c,.int .i64 t.cap,.int .i64 t.dflt,.slice t.args.a t.args.n t.args.c] 69):=⟨_,rfl⟩;obtain⟨c,hcc⟩:∃c,c=F.heap.size:=⟨_,rfl⟩;have b3:Below F.heap.size F o:=by rw[hW3];exact ze (zof _ _)
  have d1:o.cell? ⟨c,1,none⟩=some (.slice t.keys.a t.keys.n t.keys.c):=by rw[hW3,hcc];exact(zod _ _ _ _ rfl).trans rfl
  have d2:o.cell? ⟨c,2,none⟩=some (.slice t.acts.a t.acts.n t.acts.c):=by rw[hW3,hcc];exact(zod _ _ _ _ rfl).trans rfl
  have e0:=hid (m.out.box.step b3);have a0:=hid (zh m.out.bl b3);have c6:=hid (a8.step RefD.keeps b3);have V:=hid (a7.step b3);have g5:Hid (∀r∈t.ks,r.h<6):=fun r hr=>ja HC.out (J.keys r hr)
  have h5:t.keys.n<=3:=by have h1:=J.few;have h2:=a8.1;simp only[TabD.p]at h1;omega
  have g9:t.acts.n<=4:=by have h1:=J.afew;have h2:=a7.1;simp only[TabD.p]at h1;omega
  have I:Hid (∀w',Below o.heap.size o w'->∀k∈t.al,Calls Tryz.prog 32 #[d.v,.int .i64 k,.int .u64 (s:Int)] w' (jf s (zG d.p k) w')):=fun w' h k hk=>zex d s k (HL.out.step (zh a0.out h)) HC.out U.out (J.acts k hk)
  have c4:Hid (∀k∈t.al,yH s (zG d.p k)<2^64):=fun k hk=>qQ U.out (zgN HC.out (J.acts k hk))
  have a6:(x.kind==1)=true:=by rw[g];rfl
  have h9:0<=x.n:=hn.1;have h0:x.n<(d.tabs.n:Int):=by omega
  have L:Hid (∀w' (y:Nat) (B:Bool),Below o.heap.size o w'->y=yd d.p s t.al->B=(!(yD s t.ks&&t.al.all (fun k=>zH s (zG d.p k))))->yX d.p s x.p w (.returned (.tuple #[.int .u64 (y:Int),.int .u64 (s:Int),.bool B])) w'):=fun w' y B h h1 h2=>HD.out w' _ _ _ (h1.trans Q.symm) S.symm (by rw[h2,M]) (zh a0.out h)
  have q4:=m.out.box.2.2.2.2.1;have q1:=m.out.c1;rw[et]at q4;have b8:=hid hW3;have EC:=hid hcc;have O:Hid (o.cell? ⟨c,1,none⟩=some (.slice t.keys.a t.keys.n t.keys.c)/\o.cell? ⟨c,2,none⟩=some (.slice t.acts.a t.acts.n t.acts.c)):=⟨d1,d2⟩;have c5:Hid (Below o.heap.size o o):=zof _ _;obtain⟨ka,eka⟩:∃ka,t.keys.a=ka:=⟨_,rfl⟩;obtain⟨aa,eaa⟩:∃aa,t.acts.a=aa:=⟨_,rfl⟩;have d7:=hid eka;have d9:=hid eaa;rw[eka,eaa]at O;have a1:∀l,yd d.p s l<2^64:=fun l=>zck l
  have g4:=hid a1;clear Q S M g HD hn f7 d6 X J a8 a7 hW3 hcc b3 d1 d2 HO H HL HC et eka eaa a1;go_enter Tryz.func16,Tryz.ntmps16
  go_upto_region 1 with fail
  rw[<-A.out,<-EB.out];go_upto_region 4 with fail
  rw[<-D.out,<-u.out];clear z5 u0 u1 u2 u3 u4 A EB D u m;go_upto_region 5 with fail
  rw[<-b8.out,<-EC.out];clear q4 q1 v0 v1 v2 v3 v4 v5 b8 EC;go_wp2;go_loopw [12,11] (fun q a3 wr=>∃j:Nat,∃B:Bool,j<=t.keys.n/\q=.int .i64 j/\a3=.bool B/\Hid ((!yD s t.ks)=(B||!yD s (t.ks.drop j)))/\Hid (Below o.heap.size o wr)) (fun q _ _=>t.keys.n-(intOf q).toNat)
  case atStart=>exact⟨0,false,zon _,rfl,rfl,by show _=_;simp,c5⟩
  case round=>
   obtain⟨j,B,hj,rfl,rfl,HG,HB⟩:=hrel;clear c5;have d1:=za O.out.1 HB.out;by_cases f2:j<t.keys.n
   ·obtain⟨kg,ko,r,b0,a4,⟨r0,_⟩,⟨r1,_⟩⟩:=zu (c6.out.step RefD.keeps HB.out) f2;obtain rfl:ka=some ⟨kg,ko,none⟩:=by rw[<-d7.out];exact b0
    have f8:(j:Int)<(t.keys.n:Int):=by omega
    have g8:(0:Int)<=(j:Int):=by omega
    have b9:=hid (fun w'=>zaq s r.h r.f U.out (g5.out r (zol a4)) w')
    have HN:Hid (∀B',B'=(B||!yc s r.h)->(!yD s t.ks)=(B'||!yD s (t.ks.drop (j+1)))):=fun B' h=>by
     rw[HG.out,h];have:=jY (f:=fun r:RefD=>yc s r.h) a4
     unfold yD;rw[this];cases B<;>cases yc s r.h<;>rfl
    clear a4 b0 HG;generalize yc s r.h=HH at*;cases B with
    |true=>
     go_wp2;go_roundw
     case rel=>exact⟨j+1,true,by omega,by go_num,rfl,HN.out _ rfl,HB⟩
     case measure=>simp[intOf];omega
    |false=>
     go_wp2_with fail
     refine(b9.out _).mono ?_;rintro q w1 ⟨rfl,C⟩;have e4:=hid (zh HB.out C);clear b9 C HB r0 r1 d1;go_wp2;go_roundw
     case rel=>exact⟨j+1,_,by omega,by go_num,rfl,HN.out _ rfl,e4⟩
     case measure=>simp[intOf];omega
   ·have f8:¬(j:Int)<(t.keys.n:Int):=by omega
    have f6:Hid (B=(!yD s t.ks)):=by
     show B=_;rw[HG.out,List.drop_of_length_le (by have:=c6.out.1;omega)]
     cases B<;>rfl
    clear HG;go_wp2;obtain⟨T,hW4⟩:∃T,T=wr:=⟨_,rfl⟩;have a9:Hid (Below o.heap.size o T):=by rw[hW4];exact HB.out
    have b6:Hid (Below T.heap.size T T):=zof _ _;rw[<-hW4];clear hW4 HB d1;go_loopw [14,13,11,15,16] (fun q yv a3 _ _ wr=>∃i:Nat,∃y:Nat,∃B2:Bool,i<=t.acts.n/\q=.int .i64 i/\yv=.int .u64 (y:Int)/\a3=.bool B2/\Hid (y=yd d.p s (t.al.take i))/\Hid ((!(yD s t.ks&&t.al.all (fun k=>zH s (zG d.p k))))=(B2||!(t.al.drop i).all (fun k=>zH s (zG d.p k))))/\Hid (Below T.heap.size T wr)) (fun q _ _ _ _ _=>t.acts.n-(intOf q).toNat)
    case atStart=>exact⟨0,zF,B,zon _,rfl,rfl,rfl,rfl,by show _=_;rw[f6.out];cases yD s t.ks<;>simp,b6⟩
    case round=>
     obtain⟨i,y,B2,hi,rfl,rfl,rfl,HY,W,Z⟩:=hrel;clear b6;have E:Hid (Below o.heap.size o wr):=zh a9.out Z.out;have d2:=za O.out.2 E.out;obtain⟨y0,y1,y2,y3,y4,y5,y6⟩:=e0.out.step E.out;by_cases d4:i<t.acts.n
     ·obtain⟨ag,ao,c9,_,G⟩:=(V.out.step E.out).some (by omega)
      obtain rfl:aa=some ⟨ag,ao,none⟩:=by rw[<-d9.out];exact c9
      have ck:=G i d4;have N:t.al[i]?=some (t.al.getD i 0):=by
       rw[zoi,zoh (by have:=V.out.1;omega)];rfl
      generalize t.al.getD i 0=kk at*;have f9:(i:Int)<(t.acts.n:Int):=by omega
      have h7:(0:Int)<=(i:Int):=by omega
      have g6:=kS y (yH s (zG d.p kk)) (by rw[HY.out];exact g4.out _) (c4.out kk (zol N))
      have HK:Hid (∀p:zq wr,Calls Tryz.prog 32 #[d.v,.int .i64 kk,.int .u64 (s:Int)] p.to (jf s (zG d.p kk) p.to)):=fun p=>I.out p.to (zh E.out p.h) kk (zol N)
      have b5:Hid (y&&& yH s (zG d.p kk)=yd d.p s (t.al.take (i+1))):=by show _=_;rw[zaX N,HY.out]
      have b4:Hid (∀B',B'=(B2||!zH s (zG d.p kk))->(!(yD s t.ks&&t.al.all (fun k=>zH s (zG d.p k))))=(B'||!(t.al.drop (i+1)).all (fun k=>zH s (zG d.p k)))):=fun B' h=>by
       rw[W.out,h,jY N];cases B2<;>cases zH s (zG d.p kk)<;>rfl
      have d5:Hid (∀w',Below wr.heap.size wr w'->Below T.heap.size T w'):=fun w' h=>zh Z.out h
      have d8:=zm y0;have g3:=zm y1;have e9:=zm y2;have g0:=zm y3;have f0:=zm y4;have e5:=zm y5;have f5:=zm y6;have g1:=zm d2;have e6:=zm ck;unfold jf at HK;clear G N c9 HY W Z E;generalize y&&& yH s (zG d.p kk)=y' at*;generalize yH s (zG d.p kk)=R at*;generalize(!zH s (zG d.p kk))=KB at*;go_wp2_with fail
      haveI inhB:∀w:World,Inhabited (zq w):=fun w=>⟨⟨w,zof _ _⟩⟩
      refine zi (by kernel_rfl) (by kernel_rfl) ?_
      repeat (go_big_quiet_step (first|(go_at_call 32;exact zT _ (HK.out _))))
      refine wpQuiet_nil ?_;intro wq a2;obtain⟨⟨_,P⟩,K⟩:=a2;subst K;have c8:=hid (d5.out _ P);clear HK P d5 y0 y1 y2 y3 y4 y5 y6 d2 ck d8 g3 e9 g0 f0 e5 f5 g1 e6;cases B2 with
      |true=>
       go_wp2;go_roundw
       case rel=>exact⟨i+1,y',true,by omega,by go_num,rfl,rfl,b5,b4.out _ rfl,c8⟩
       case measure=>simp[intOf];omega
      |false=>
       go_wp2;go_roundw
       case rel=>exact⟨i+1,y',KB,by omega,by go_num,rfl,rfl,b5,b4.out _ rfl,c8⟩
       case measure=>simp[intOf];omega
     ·have f9:¬(i:Int)<(t.acts.n:Int):=by omega
      have f4:Hid (yX d.p s x.p w (.returned (.tuple #[.int .u64 (y:Int),.int .u64 (s:Int),.bool B2])) wr):=by
       refine L.out _ _ _ E.out ?_ ?_
       ·rw[HY.out,List.take_of_length_le (by have:=V.out.1;omega)]
       ·rw[W.out,List.drop_of_length_le (by have:=V.out.1;omega)]
        cases B2<;>rfl
      clear HY W Z E L I y0 y1 y2 y3 y4 y5 y6;go_wp2;exact bodyPost_ret (v:=.tuple #[.int .u64 (y:Int),.int .u64 (s:Int),.bool B2]) (by simp[results,Tryz.results16,go_sem]) rfl f4.out
 ·have Q:jd d.p s x.p=yH s (zG d.p x.n):=by unfold jd;rw[if_neg (show¬x.p.kind=1 by show¬x.kind=1;omega),if_pos (show x.p.kind=2 from g)];rfl
  have S:noN s x.p=s:=by unfold noN;rw[if_neg (show¬x.p.kind=4 by show¬x.kind=4;omega)]
  have M:yB d.p s x.p=zH s (zG d.p x.n):=by unfold yB;rw[if_neg (show¬x.p.kind=1 by show¬x.kind=1;omega),if_pos (show x.p.kind=2 from g)];rfl
  have a6:(x.kind==1)=false:=by rw[g];rfl
  have b7:(x.kind==2)=true:=by rw[g];rfl
  have I:=hid (zex d s x.n (HL.out.step m.out.bl) HC.out U.out (HO.out.act g));have L:Hid (∀w',Below F.heap.size F w'->yX d.p s x.p w (.returned (.tuple #[.int .u64 (yH s (zG d.p x.n):Nat),.int .u64 (s:Int),.bool (!zH s (zG d.p x.n))])) w'):=fun w' h=>HD.out w' _ _ _ Q.symm S.symm (by rw[M]) (zh m.out.bl h)
  unfold jf at I;clear Q S M g HD HL HC U H HO;generalize yH s (zG d.p x.n)=R at*;generalize(!zH s (zG d.p x.n))=KB at*;go_enter Tryz.func16,Tryz.ntmps16
  go_upto_region 1 with fail
  rw[<-A.out,<-EB.out];go_upto_region 19 with fail
  rw[<-D.out,<-u.out];obtain⟨⟨y0,y1,y2,y3,y4,y5,y6⟩,c0,c1,c2,_⟩:=m.out;clear z5 u0 u1 u2 u3 u4 A EB D u m;go_wp2_with fail
  refine I.out.mono ?_;rintro e w1 ⟨rfl,C⟩;have HF:=hid (L.out w1 C);clear I L C y0 y1 y2 y3 y4 y5 y6 c0 c1 c2;go_wp2;exact bodyPost_ret (v:=.tuple #[.int .u64 (R:Int),.int .u64 (s:Int),.bool KB]) (by simp[results,Tryz.results16,go_sem]) rfl HF.out
 ·have Q:jd d.p s x.p=s:=by unfold jd;rw[if_neg (show¬x.p.kind=1 by show¬x.kind=1;omega),if_neg (show¬x.p.kind=2 by show¬x.kind=2;omega),if_pos (show x.p.kind=3 from g)]
  have S:noN s x.p=s:=by unfold noN;rw[if_neg (show¬x.p.kind=4 by show¬x.kind=4;omega)]
  have M:yB d.p s x.p=zL s x.es:=by unfold yB;rw[if_neg (show¬x.p.kind=1 by show¬x.kind=1;omega),if_neg (show¬x.p.kind=2 by show¬x.kind=2;omega),if_pos (show x.p.kind=3 from g)];rfl
  have a6:(x.kind==1)=false:=by rw[g];rfl
  have b7:(x.kind==2)=false:=by rw[g];rfl
  have e7:(x.kind==3)=true:=by rw[g];rfl
  have ht:=qr (HO.out.tree g);have d3:=hid (zbx s x.e x.es F U.out (H.out.step PushD.keeps m.out.bl) (fun r hr h2=>ja HC.out (ht.2 r hr h2)) (by have h1:x.es.length<=8:=ht.1;have h2:=H.out.1;omega))
  have L:Hid (∀w',Below F.heap.size F w'->yX d.p s x.p w (.returned (.tuple #[.int .u64 (s:Int),.int .u64 (s:Int),.bool (!zL s x.es)])) w'):=fun w' h=>HD.out w' _ _ _ Q.symm S.symm (by rw[M]) (zh m.out.bl h)
  clear Q S M g HD HL HC U H HO ht;generalize(!zL s x.es)=KB at*;go_enter Tryz.func16,Tryz.ntmps16
  go_upto_region 1 with fail
  rw[<-A.out,<-EB.out];go_upto_region 22 with fail
  rw[<-D.out,<-u.out];obtain⟨_,c0,c1,c2,_⟩:=m.out;clear z5 u0 u1 u2 u3 u4 A EB D u m;go_wp2_with fail
  refine d3.out.mono ?_;rintro e w1 ⟨rfl,C⟩;have HF:=hid (L.out w1 C);clear d3 L C c0 c1 c2;go_wp2;exact bodyPost_ret (v:=.tuple #[.int .u64 (s:Int),.int .u64 (s:Int),.bool KB]) (by simp[results,Tryz.results16,go_sem]) rfl HF.out
 ·have Q:jd d.p s x.p=s|||zv x.n:=by unfold jd;rw[if_neg (show¬x.p.kind=1 by show¬x.kind=1;omega),if_neg (show¬x.p.kind=2 by show¬x.kind=2;omega),if_neg (show¬x.p.kind=3 by show¬x.kind=3;omega)];rfl
  have S:noN s x.p=s-(s&&& zv x.n):=by unfold noN;rw[if_pos (show x.p.kind=4 from g)];rfl
  have M:yB d.p s x.p=true:=by unfold yB;rw[if_neg (show¬x.p.kind=1 by show¬x.kind=1;omega),if_neg (show¬x.p.kind=2 by show¬x.kind=2;omega),if_neg (show¬x.p.kind=3 by show¬x.kind=3;omega)]
  have a6:(x.kind==1)=false:=by rw[g];rfl
  have b7:(x.kind==2)=false:=by rw[g];rfl
  have e7:(x.kind==3)=false:=by rw[g];rfl
  have hn:0<=x.n/\x.n<(d.p.hs.length:Int):=HO.out.hd g;have f3:Hid (∀w',Calls Tryz.prog 30 #[.int .i64 x.n] w' fun q e8=>q=.returned (.int .u64 (zv x.n))/\e8=w'):=fun w'=>jX x.n hn.1 (by omega) w'
  have i0:=zbt s (zv x.n) U.out (xW (by omega))
  have h8:=zcs s (zv x.n) U.out (xW (by omega))
  have L:Hid (∀w',Below F.heap.size F w'->yX d.p s x.p w (.returned (.tuple #[.int .u64 ((s|||zv x.n:Nat):Int),.int .u64 ((s-(s&&& zv x.n):Nat):Int),.bool false])) w'):=fun w' h=>HD.out w' _ _ _ Q.symm S.symm (by rw[M];rfl) (zh m.out.bl h)
  clear Q S M g HD HL HC U H HO hn h6;generalize s|||zv x.n=R at*
  generalize s-(s&&& zv x.n)=R2 at*;generalize zv x.n=N6 at*;go_enter Tryz.func16,Tryz.ntmps16
  go_upto_region 1 with fail
  rw[<-A.out,<-EB.out];go_upto_region 23 with fail
  rw[<-D.out,<-u.out];have c1:=m.out.c1;have f1:=zm c1;clear z5 u0 u1 u2 u3 u4 A EB D u m;haveI inhB:∀w:World,Inhabited (zq w):=fun w=>⟨⟨w,zof _ _⟩⟩
  refine zi (by kernel_rfl) (by kernel_rfl) ?_
  repeat (go_big_quiet_step (first|(go_at_call 30;exact zt _ (f3.out _))))
  refine wpQuiet_nil ?_;intro wq a2;obtain⟨⟨_,P⟩,K⟩:=a2;subst K;have HF:=hid (L.out _ P);clear L P c1 f1;go_wp2;exact bodyPost_ret (v:=.tuple #[.int .u64 (R:Int),.int .u64 (R2:Int),.bool false]) (by simp[results,Tryz.results16,go_sem]) rfl HF.out
def zfE(d:PlanD)(st:Nat)(i:Nat):Prop:=∀w:World,d.lie w->Calls Tryz.prog 15 #[d.v,.int .u64 (st:Int),.int .i64 (i:Int)] w fun e w'=>e=.returned (.int .u64 (SN d.p st i i:Nat))/\Below w.heap.size w w'
theorem zhB(d:PlanD)(st i:Nat)(hc:(zD d.p).1=0)(a7:st<2^64)(hi:i<=d.p.ns.length)(ih:∀j,j<i->zfE d st j):zfE d st i:=by
 intro w hl;have c5:Hid (∀o,Below w.heap.size w (w.alloc o)):=fun o=>ze (zof _ _)
 by_cases h0:i=0
 ·subst h0;have e:SN d.p st 0 0=st:=rfl;rw[e];have hz:((0:Nat):Int)=0:=rfl;rw[hz];clear ih hl hc a7 hi e hz;go_enter Tryz.func15,Tryz.ntmps15
  go_wp2;go_ret;exact⟨rfl,c5.out _⟩
 ·have d2:((i:Int)==0)=false:=by rw[beq_eq_false_iff_ne];omega
  have en:d.p.ns.length=d.nodes.n:=by simp[PlanD.p,hl.ns.1]
  have c9:d.nodes.n<=10:=by have:(d.p.ns.length:Int)<=10:=(zB hc 5 (by decide)).2.1;omega
  have d3:i<=10:=by omega
  obtain⟨W1,hW1⟩:∃W1,W1=w.alloc d.box:=⟨_,rfl⟩;obtain⟨b,hb⟩:∃b,b=w.heap.size:=⟨_,rfl⟩;have b1:Below w.heap.size w W1:=by rw[hW1];exact ze (zof _ _)
  have c8:Hid (BoxAt d b W1):=by rw[hW1,hb];exact zdi d w
  have c1:=hid b1;have HL:=hid hl;have b7:=hid hW1;have EB:=hid hb;have HI:=hid ih;have HC:=hid hc;have b4:=hid a7;have b3:Hid (SN d.p st 0 i=zF):=by show SN d.p st 0 i=zF;unfold SN;rw[if_neg h0]
  have b8:Hid (Below W1.heap.size W1 W1):=zof _ _;have c0:Hid (i<=d.nodes.n):=by show i<=d.nodes.n;omega
  have EN:=hid en;have HD:Hid (∀w' (t:Nat),t=SN d.p st i i->Below W1.heap.size W1 w'->(Ending.returned (.int .u64 (t:Int))=.returned (.int .u64 (SN d.p st i i:Nat))/\Below w.heap.size w w')):=fun w' t h c4=>⟨by rw[h],zh b1 c4⟩
  obtain⟨na,ena⟩:∃na,d.nodes.a=na:=⟨_,rfl⟩;have b0:=hid ena;clear hl ih hc a7 hi hW1 hb b1 en ena h0;go_enter Tryz.func15,Tryz.ntmps15
  go_wp2_with fail
  rw[<-b7.out,<-EB.out];clear b7 EB;go_loopw [8,7,9,10,11,12,13,14] (fun q ov _ _ _ _ _ _ wr=>∃j t:Nat,j<=i/\q=.int .i64 j/\ov=.int .u64 (t:Int)/\Hid (t=SN d.p st j i)/\Hid (Below W1.heap.size W1 wr)) (fun q _ _ _ _ _ _ _ _=>i-(intOf q).toNat)
  case atStart=>exact⟨0,zF,zon _,rfl,rfl,b3.out.symm,b8⟩
  case round=>
   obtain⟨j,t,hj,rfl,rfl,HT,HB⟩:=hrel;clear b8 b3;by_cases c3:j<i
   ·have c6:(j:Int)<(i:Int):=by omega
    have a8:j<d.nodes.n:=by have:=c0.out;omega
    have d5:(j:Int)<(d.nodes.n:Int):=by omega
    have d1:(0:Int)<=(j:Int):=by omega
    have a3:=hid (zh c1.out HB.out);obtain⟨ng,no,x,b9,hx,hp⟩:=zu (HL.out.step a3.out).ns a8;have a9:d.p.ns.getD j PNode.z=x.p:=by
     unfold PlanD.p;simp only[zoi,zoy,hx,Option.map_some,zoC]
    have ho:zaH d.p j x.p:=by have:=za3 HC.out (i:=j) (by rw[EN.out];exact a8);rwa[a9]at this
    obtain⟨z0,z1,T,Q,S,P,U⟩:=c8.out.step HB.out;obtain⟨⟨t0,_⟩,⟨t1,_⟩,⟨t2,_⟩,⟨X,_⟩,⟨W,_⟩,_⟩:=hp;obtain⟨s,hs⟩:∃s,s=SN d.p st j j:=⟨_,rfl⟩;have a0:s<2^64:=by rw[hs];exact qR b4.out j j
    have a1:t<2^64:=by rw[HT.out];exact qR b4.out j i
    have a5:=zgO HC.out a0 ho;have a2:=zji (x:=x.p) a0;have r:Hid (SN d.p st (j+1) i=t&&& qM d.p s x.p i):=by show SN d.p st (j+1) i=_;show SN d.p st j i&&& qM d.p (SN d.p st j j) (d.p.ns.getD j PNode.z) i=_;rw[a9,<-HT.out,<-hs]
    have C:Hid (∀o,Calls Tryz.prog 15 #[d.v,.int .u64 (st:Int),.int .i64 (j:Int)] (wr.alloc o) fun e w'=>e=.returned (.int .u64 (s:Int))/\Below (wr.alloc o).heap.size (wr.alloc o) w'):=fun o=>by
     have:=HI.out j c3 (wr.alloc o) (HL.out.step (zh a3.out (ze (zof _ _))));rw[<-hs]at this;exact this
    have E:Hid (∀w',Below wr.heap.size wr w'->Calls Tryz.prog 16 #[d.v,.int .i64 (j:Int),.int .u64 (s:Int)] w' (yX d.p s x.p w')):=fun w' h=>zdj d s j x (HL.out.step (zh a3.out h)) HC.out a0 a8 hx ho
    have I:=hid (fun o=>zh HB.out (ze (zof wr.heap.size wr) (o:=o)))
    have R:=kS t (jd d.p s x.p) a1 a5;have G:Hid (∀u:Nat,u<2^64->bits .and .u64 (u:Int) (noN s x.p:Int)=((u&&& noN s x.p:Nat):Int)):=fun u hu=>kS u (noN s x.p) hu a2
    have J:=hid a1;have a4:=hid a5;have b6:=hid a2;have A:Hid (qM d.p s x.p i=if s=zF then zF else(if x.yes=(i:Int)then jd d.p s x.p else zF)&&& (if(x.kind=3\/x.kind=4)/\x.no=(i:Int)then noN s x.p else zF)):=rfl
    have d4:x.kind=1\/x.kind=2\/x.kind=3\/x.kind=4:=ho.kind;obtain rfl:na=some ⟨ng,no,none⟩:=by rw[<-b0.out];exact b9
    rw[b0.out]at P;have d0:b<wr.heap.size:=zog _ _ z0;clear hx a9 ho hs a0 a1 a5 a2 HT b9;unfold yX at E;unfold PlanD.v at C E;rw[b0.out]at C E;generalize jd d.p s x.p=Y at*;generalize noN s x.p=N at*;generalize qM d.p s x.p i=CN at*;generalize yB d.p s x.p=KB at*;by_cases F:x.kind=3
    ·have m:x.kind=3\/x.kind=4:=.inl F;have b5:(x.kind==3)=true:=by rw[F];rfl
     have b2:(x.kind==4)=false:=by rw[F];rfl
     by_cases k:x.yes=(i:Int)
     ·have f1:(x.yes !=(i:Int))=false:=by rw[k];simp
      have f2:(x.yes==(i:Int))=true:=by rw[k];simp
      by_cases l:x.no=(i:Int)
      ·have g1:(x.no !=(i:Int))=false:=by rw[l];simp
       have g2:(x.no==(i:Int))=true:=by rw[l];simp
       by_cases g:s=zF
       ·have O:((s:Int)==18446744073709551615)=true:=by rw[g];rfl
        have D:Hid (t=SN d.p st (j+1) i):=by
         show t=_;rw[r.out,A.out,if_pos g,zy J.out]
        clear E R G r A g k l m F;go_wp2_with fail
        refine(C.out _).mono ?_;rintro e H ⟨rfl,f⟩;have B:=hid (zh (I.out _) f);clear C f z0 z1 T Q S P U t0 t1 t2 X W;go_wp2;go_roundw
        case rel=>exact⟨j+1,t,by omega,by go_num,rfl,D,B⟩
        case measure=>simp[intOf];omega
       ·have O:((s:Int)==18446744073709551615)=false:=by
         rw[beq_eq_false_iff_ne];intro h;exact g (by unfold zF;omega)
        have D:Hid (t&&& Y&&& N=SN d.p st (j+1) i):=by
         show _=_;rw[r.out,A.out,if_neg g,if_pos k,if_pos ⟨m,l⟩,Nat.and_assoc]
        have a6:=G.out (t&&& Y) (jV J.out);clear G r A g k l m F;go_wp2_with fail
        refine(C.out _).mono ?_;rintro e H ⟨rfl,f⟩;have B:=hid (zh (I.out _) f);have c:Below wr.heap.size wr H:=zh (ze (zof _ _)) f;have y0:=za z0 c;have y1:=za z1 c;have y2:=za T c;have y3:=za Q c;have Z:=za S c;have y5:=za P c;have y6:=za U c;have M:Hid (H.cell? ⟨wr.heap.size,3,none⟩=some (.int .i64 x.yes)/\H.cell? ⟨wr.heap.size,4,none⟩=some (.int .i64 x.no)):=⟨(f.cell (p:=⟨wr.heap.size,3,none⟩) (by simp)).trans ((zod _ _ _ _ rfl).trans rfl),(f.cell (p:=⟨wr.heap.size,4,none⟩) (by simp)).trans ((zod _ _ _ _ rfl).trans rfl)⟩
        have V:=hid (E.out H c);clear C E f c z0 z1 T Q S P U t0 t1 t2 X W;go_wp2_with fail
        refine V.out.mono ?_;rintro e w2 ⟨rfl,y⟩;have L:=hid (zh B.out y);have m3:=za M.out.1 y;have m4:=za M.out.2 y;clear V M B y y0 y1 y2 y3 Z y5 y6;go_wp2;go_roundw
        case rel=>exact⟨j+1,t&&& Y&&& N,by omega,by go_num,rfl,D,L⟩
        case measure=>simp[intOf];omega
      ·have g1:(x.no !=(i:Int))=true:=by rw[bne_iff_ne];exact l
       have g2:(x.no==(i:Int))=false:=by rw[beq_eq_false_iff_ne];exact l
       by_cases g:s=zF
       ·have O:((s:Int)==18446744073709551615)=true:=by rw[g];rfl
        have D:Hid (t=SN d.p st (j+1) i):=by
         show t=_;rw[r.out,A.out,if_pos g,zy J.out]
        clear E R G r A g k l m F;go_wp2_with fail
        refine(C.out _).mono ?_;rintro e H ⟨rfl,f⟩;have B:=hid (zh (I.out _) f);clear C f z0 z1 T Q S P U t0 t1 t2 X W;go_wp2;go_roundw
        case rel=>exact⟨j+1,t,by omega,by go_num,rfl,D,B⟩
        case measure=>simp[intOf];omega
       ·have O:((s:Int)==18446744073709551615)=false:=by
         rw[beq_eq_false_iff_ne];intro h;exact g (by unfold zF;omega)
        have D:Hid (t&&& Y=SN d.p st (j+1) i):=by
         show _=_;rw[r.out,A.out,if_neg g,if_pos k,if_neg (fun h=>l h.2),zy a4.out]
        clear G r A g k l m F;go_wp2_with fail
        refine(C.out _).mono ?_;rintro e H ⟨rfl,f⟩;have B:=hid (zh (I.out _) f);have c:Below wr.heap.size wr H:=zh (ze (zof _ _)) f;have y0:=za z0 c;have y1:=za z1 c;have y2:=za T c;have y3:=za Q c;have Z:=za S c;have y5:=za P c;have y6:=za U c;have M:Hid (H.cell? ⟨wr.heap.size,3,none⟩=some (.int .i64 x.yes)/\H.cell? ⟨wr.heap.size,4,none⟩=some (.int .i64 x.no)):=⟨(f.cell (p:=⟨wr.heap.size,3,none⟩) (by simp)).trans ((zod _ _ _ _ rfl).trans rfl),(f.cell (p:=⟨wr.heap.size,4,none⟩) (by simp)).trans ((zod _ _ _ _ rfl).trans rfl)⟩
        have V:=hid (E.out H c);clear C E f c z0 z1 T Q S P U t0 t1 t2 X W;go_wp2_with fail
        refine V.out.mono ?_;rintro e w2 ⟨rfl,y⟩;have L:=hid (zh B.out y);have m3:=za M.out.1 y;have m4:=za M.out.2 y;clear V M B y y0 y1 y2 y3 Z y5 y6;go_wp2;go_roundw
        case rel=>exact⟨j+1,t&&& Y,by omega,by go_num,rfl,D,L⟩
        case measure=>simp[intOf];omega
     ·have f1:(x.yes !=(i:Int))=true:=by rw[bne_iff_ne];exact k
      have f2:(x.yes==(i:Int))=false:=by rw[beq_eq_false_iff_ne];exact k
      by_cases l:x.no=(i:Int)
      ·have g1:(x.no !=(i:Int))=false:=by rw[l];simp
       have g2:(x.no==(i:Int))=true:=by rw[l];simp
       by_cases g:s=zF
       ·have O:((s:Int)==18446744073709551615)=true:=by rw[g];rfl
        have D:Hid (t=SN d.p st (j+1) i):=by
         show t=_;rw[r.out,A.out,if_pos g,zy J.out]
        clear E R G r A g k l m F;go_wp2_with fail
        refine(C.out _).mono ?_;rintro e H ⟨rfl,f⟩;have B:=hid (zh (I.out _) f);clear C f z0 z1 T Q S P U t0 t1 t2 X W;go_wp2;go_roundw
        case rel=>exact⟨j+1,t,by omega,by go_num,rfl,D,B⟩
        case measure=>simp[intOf];omega
       ·have O:((s:Int)==18446744073709551615)=false:=by
         rw[beq_eq_false_iff_ne];intro h;exact g (by unfold zF;omega)
        have D:Hid (t&&& N=SN d.p st (j+1) i):=by
         show _=_;rw[r.out,A.out,if_neg g,if_neg k,if_pos ⟨m,l⟩,zaY b6.out]
        have a6:=G.out t J.out;clear G r A g k l m F;go_wp2_with fail
        refine(C.out _).mono ?_;rintro e H ⟨rfl,f⟩;have B:=hid (zh (I.out _) f);have c:Below wr.heap.size wr H:=zh (ze (zof _ _)) f;have y0:=za z0 c;have y1:=za z1 c;have y2:=za T c;have y3:=za Q c;have Z:=za S c;have y5:=za P c;have y6:=za U c;have M:Hid (H.cell? ⟨wr.heap.size,3,none⟩=some (.int .i64 x.yes)/\H.cell? ⟨wr.heap.size,4,none⟩=some (.int .i64 x.no)):=⟨(f.cell (p:=⟨wr.heap.size,3,none⟩) (by simp)).trans ((zod _ _ _ _ rfl).trans rfl),(f.cell (p:=⟨wr.heap.size,4,none⟩) (by simp)).trans ((zod _ _ _ _ rfl).trans rfl)⟩
        have V:=hid (E.out H c);clear C E f c z0 z1 T Q S P U t0 t1 t2 X W;go_wp2_with fail
        refine V.out.mono ?_;rintro e w2 ⟨rfl,y⟩;have L:=hid (zh B.out y);have m3:=za M.out.1 y;have m4:=za M.out.2 y;clear V M B y y0 y1 y2 y3 Z y5 y6;go_wp2;go_roundw
        case rel=>exact⟨j+1,t&&& N,by omega,by go_num,rfl,D,L⟩
        case measure=>simp[intOf];omega
      ·have g1:(x.no !=(i:Int))=true:=by rw[bne_iff_ne];exact l
       have g2:(x.no==(i:Int))=false:=by rw[beq_eq_false_iff_ne];exact l
       have D:Hid (t=SN d.p st (j+1) i):=by
        show t=_;rw[r.out,A.out];by_cases g:s=zF
        ·rw[if_pos g,zy J.out]
        ·rw[if_neg g,if_neg k,if_neg (fun h=>l h.2),zy kj,zy J.out]
       clear C E R G r A k l m F;go_wp2;go_roundw
       case rel=>exact⟨j+1,t,by omega,by go_num,rfl,D,I.out _⟩
       case measure=>simp[intOf];omega
    by_cases K:x.kind=4
    ·have F:=K;have m:x.kind=3\/x.kind=4:=.inr F;have b5:(x.kind==3)=false:=by rw[F];rfl
     have b2:(x.kind==4)=true:=by rw[F];rfl
     by_cases k:x.yes=(i:Int)
     ·have f1:(x.yes !=(i:Int))=false:=by rw[k];simp
      have f2:(x.yes==(i:Int))=true:=by rw[k];simp
      by_cases l:x.no=(i:Int)
      ·have g1:(x.no !=(i:Int))=false:=by rw[l];simp
       have g2:(x.no==(i:Int))=true:=by rw[l];simp
       by_cases g:s=zF
       ·have O:((s:Int)==18446744073709551615)=true:=by rw[g];rfl
        have D:Hid (t=SN d.p st (j+1) i):=by
         show t=_;rw[r.out,A.out,if_pos g,zy J.out]
        clear E R G r A g k l m F K;go_wp2_with fail
        refine(C.out _).mono ?_;rintro e H ⟨rfl,f⟩;have B:=hid (zh (I.out _) f);clear C f z0 z1 T Q S P U t0 t1 t2 X W;go_wp2;go_roundw
        case rel=>exact⟨j+1,t,by omega,by go_num,rfl,D,B⟩
        case measure=>simp[intOf];omega
       ·have O:((s:Int)==18446744073709551615)=false:=by
         rw[beq_eq_false_iff_ne];intro h;exact g (by unfold zF;omega)
        have D:Hid (t&&& Y&&& N=SN d.p st (j+1) i):=by
         show _=_;rw[r.out,A.out,if_neg g,if_pos k,if_pos ⟨m,l⟩,Nat.and_assoc]
        have a6:=G.out (t&&& Y) (jV J.out);clear G r A g k l m F K;go_wp2_with fail
        refine(C.out _).mono ?_;rintro e H ⟨rfl,f⟩;have B:=hid (zh (I.out _) f);have c:Below wr.heap.size wr H:=zh (ze (zof _ _)) f;have y0:=za z0 c;have y1:=za z1 c;have y2:=za T c;have y3:=za Q c;have Z:=za S c;have y5:=za P c;have y6:=za U c;have M:Hid (H.cell? ⟨wr.heap.size,3,none⟩=some (.int .i64 x.yes)/\H.cell? ⟨wr.heap.size,4,none⟩=some (.int .i64 x.no)):=⟨(f.cell (p:=⟨wr.heap.size,3,none⟩) (by simp)).trans ((zod _ _ _ _ rfl).trans rfl),(f.cell (p:=⟨wr.heap.size,4,none⟩) (by simp)).trans ((zod _ _ _ _ rfl).trans rfl)⟩
        have V:=hid (E.out H c);clear C E f c z0 z1 T Q S P U t0 t1 t2 X W;go_wp2_with fail
        refine V.out.mono ?_;rintro e w2 ⟨rfl,y⟩;have L:=hid (zh B.out y);have m3:=za M.out.1 y;have m4:=za M.out.2 y;clear V M B y y0 y1 y2 y3 Z y5 y6;go_wp2;go_roundw
        case rel=>exact⟨j+1,t&&& Y&&& N,by omega,by go_num,rfl,D,L⟩
        case measure=>simp[intOf];omega
      ·have g1:(x.no !=(i:Int))=true:=by rw[bne_iff_ne];exact l
       have g2:(x.no==(i:Int))=false:=by rw[beq_eq_false_iff_ne];exact l
       by_cases g:s=zF
       ·have O:((s:Int)==18446744073709551615)=true:=by rw[g];rfl
        have D:Hid (t=SN d.p st (j+1) i):=by
         show t=_;rw[r.out,A.out,if_pos g,zy J.out]
        clear E R G r A g k l m F K;go_wp2_with fail
        refine(C.out _).mono ?_;rintro e H ⟨rfl,f⟩;have B:=hid (zh (I.out _) f);clear C f z0 z1 T Q S P U t0 t1 t2 X W;go_wp2;go_roundw
        case rel=>exact⟨j+1,t,by omega,by go_num,rfl,D,B⟩
        case measure=>simp[intOf];omega
       ·have O:((s:Int)==18446744073709551615)=false:=by
         rw[beq_eq_false_iff_ne];intro h;exact g (by unfold zF;omega)
        have D:Hid (t&&& Y=SN d.p st (j+1) i):=by
         show _=_;rw[r.out,A.out,if_neg g,if_pos k,if_neg (fun h=>l h.2),zy a4.out]
        clear G r A g k l m F K;go_wp2_with fail
        refine(C.out _).mono ?_;rintro e H ⟨rfl,f⟩;have B:=hid (zh (I.out _) f);have c:Below wr.heap.size wr H:=zh (ze (zof _ _)) f;have y0:=za z0 c;have y1:=za z1 c;have y2:=za T c;have y3:=za Q c;have Z:=za S c;have y5:=za P c;have y6:=za U c;have M:Hid (H.cell? ⟨wr.heap.size,3,none⟩=some (.int .i64 x.yes)/\H.cell? ⟨wr.heap.size,4,none⟩=some (.int .i64 x.no)):=⟨(f.cell (p:=⟨wr.heap.size,3,none⟩) (by simp)).trans ((zod _ _ _ _ rfl).trans rfl),(f.cell (p:=⟨wr.heap.size,4,none⟩) (by simp)).trans ((zod _ _ _ _ rfl).trans rfl)⟩
        have V:=hid (E.out H c);clear C E f c z0 z1 T Q S P U t0 t1 t2 X W;go_wp2_with fail
        refine V.out.mono ?_;rintro e w2 ⟨rfl,y⟩;have L:=hid (zh B.out y);have m3:=za M.out.1 y;have m4:=za M.out.2 y;clear V M B y y0 y1 y2 y3 Z y5 y6;go_wp2;go_roundw
        case rel=>exact⟨j+1,t&&& Y,by omega,by go_num,rfl,D,L⟩
        case measure=>simp[intOf];omega
     ·have f1:(x.yes !=(i:Int))=true:=by rw[bne_iff_ne];exact k
      have f2:(x.yes==(i:Int))=false:=by rw[beq_eq_false_iff_ne];exact k
      by_cases l:x.no=(i:Int)
      ·have g1:(x.no !=(i:Int))=false:=by rw[l];simp
       have g2:(x.no==(i:Int))=true:=by rw[l];simp
       by_cases g:s=zF
       ·have O:((s:Int)==18446744073709551615)=true:=by rw[g];rfl
        have D:Hid (t=SN d.p st (j+1) i):=by
         show t=_;rw[r.out,A.out,if_pos g,zy J.out]
        clear E R G r A g k l m F K;go_wp2_with fail
        refine(C.out _).mono ?_;rintro e H ⟨rfl,f⟩;have B:=hid (zh (I.out _) f);clear C f z0 z1 T Q S P U t0 t1 t2 X W;go_wp2;go_roundw
        case rel=>exact⟨j+1,t,by omega,by go_num,rfl,D,B⟩
        case measure=>simp[intOf];omega
       ·have O:((s:Int)==18446744073709551615)=false:=by
         rw[beq_eq_false_iff_ne];intro h;exact g (by unfold zF;omega)
        have D:Hid (t&&& N=SN d.p st (j+1) i):=by
         show _=_;rw[r.out,A.out,if_neg g,if_neg k,if_pos ⟨m,l⟩,zaY b6.out]
        have a6:=G.out t J.out;clear G r A g k l m F K;go_wp2_with fail
        refine(C.out _).mono ?_;rintro e H ⟨rfl,f⟩;have B:=hid (zh (I.out _) f);have c:Below wr.heap.size wr H:=zh (ze (zof _ _)) f;have y0:=za z0 c;have y1:=za z1 c;have y2:=za T c;have y3:=za Q c;have Z:=za S c;have y5:=za P c;have y6:=za U c;have M:Hid (H.cell? ⟨wr.heap.size,3,none⟩=some (.int .i64 x.yes)/\H.cell? ⟨wr.heap.size,4,none⟩=some (.int .i64 x.no)):=⟨(f.cell (p:=⟨wr.heap.size,3,none⟩) (by simp)).trans ((zod _ _ _ _ rfl).trans rfl),(f.cell (p:=⟨wr.heap.size,4,none⟩) (by simp)).trans ((zod _ _ _ _ rfl).trans rfl)⟩
        have V:=hid (E.out H c);clear C E f c z0 z1 T Q S P U t0 t1 t2 X W;go_wp2_with fail
        refine V.out.mono ?_;rintro e w2 ⟨rfl,y⟩;have L:=hid (zh B.out y);have m3:=za M.out.1 y;have m4:=za M.out.2 y;clear V M B y y0 y1 y2 y3 Z y5 y6;go_wp2;go_roundw
        case rel=>exact⟨j+1,t&&& N,by omega,by go_num,rfl,D,L⟩
        case measure=>simp[intOf];omega
      ·have g1:(x.no !=(i:Int))=true:=by rw[bne_iff_ne];exact l
       have g2:(x.no==(i:Int))=false:=by rw[beq_eq_false_iff_ne];exact l
       have D:Hid (t=SN d.p st (j+1) i):=by
        show t=_;rw[r.out,A.out];by_cases g:s=zF
        ·rw[if_pos g,zy J.out]
        ·rw[if_neg g,if_neg k,if_neg (fun h=>l h.2),zy kj,zy J.out]
       clear C E R G r A k l m F K;go_wp2;go_roundw
       case rel=>exact⟨j+1,t,by omega,by go_num,rfl,D,I.out _⟩
       case measure=>simp[intOf];omega
    have m:¬(x.kind=3\/x.kind=4):=fun h=>h.elim F K
    have b5:(x.kind==3)=false:=by rw[beq_eq_false_iff_ne];exact fun h=>m (.inl h)
    have b2:(x.kind==4)=false:=by rw[beq_eq_false_iff_ne];exact fun h=>m (.inr h)
    by_cases k:x.yes=(i:Int)
    ·have f1:(x.yes !=(i:Int))=false:=by rw[k];simp
     have f2:(x.yes==(i:Int))=true:=by rw[k];simp
     by_cases g:s=zF
     ·have O:((s:Int)==18446744073709551615)=true:=by rw[g];rfl
      have D:Hid (t=SN d.p st (j+1) i):=by
       show t=_;rw[r.out,A.out,if_pos g,zy J.out]
      clear E R G r A g k;go_wp2_with fail
      refine(C.out _).mono ?_;rintro e H ⟨rfl,f⟩;have B:=hid (zh (I.out _) f);clear C f z0 z1 T Q S P U t0 t1 t2 X W;go_wp2;go_roundw
      case rel=>exact⟨j+1,t,by omega,by go_num,rfl,D,B⟩
      case measure=>simp[intOf];omega
     ·have O:((s:Int)==18446744073709551615)=false:=by
       rw[beq_eq_false_iff_ne];intro h;exact g (by unfold zF;omega)
      have D:Hid (t&&& Y=SN d.p st (j+1) i):=by
       show _=_;rw[r.out,A.out,if_neg g,if_pos k,if_neg (fun h=>m h.1),zy a4.out]
      clear G r A g k;go_wp2_with fail
      refine(C.out _).mono ?_;rintro e H ⟨rfl,f⟩;have B:=hid (zh (I.out _) f);have c:Below wr.heap.size wr H:=zh (ze (zof _ _)) f;have y0:=za z0 c;have y1:=za z1 c;have y2:=za T c;have y3:=za Q c;have Z:=za S c;have y5:=za P c;have y6:=za U c;have M:Hid (H.cell? ⟨wr.heap.size,3,none⟩=some (.int .i64 x.yes)/\H.cell? ⟨wr.heap.size,4,none⟩=some (.int .i64 x.no)):=⟨(f.cell (p:=⟨wr.heap.size,3,none⟩) (by simp)).trans ((zod _ _ _ _ rfl).trans rfl),(f.cell (p:=⟨wr.heap.size,4,none⟩) (by simp)).trans ((zod _ _ _ _ rfl).trans rfl)⟩
      have V:=hid (E.out H c);clear C E f c z0 z1 T Q S P U t0 t1 t2 X W;go_wp2_with fail
      refine V.out.mono ?_;rintro e w2 ⟨rfl,y⟩;have L:=hid (zh B.out y);have m3:=za M.out.1 y;have m4:=za M.out.2 y;clear V M B y y0 y1 y2 y3 Z y5 y6;go_wp2;go_roundw
      case rel=>exact⟨j+1,t&&& Y,by omega,by go_num,rfl,D,L⟩
      case measure=>simp[intOf];omega
    ·have f1:(x.yes !=(i:Int))=true:=by rw[bne_iff_ne];exact k
     have f2:(x.yes==(i:Int))=false:=by rw[beq_eq_false_iff_ne];exact k
     have D:Hid (t=SN d.p st (j+1) i):=by
      show t=_;rw[r.out,A.out];by_cases g:s=zF
      ·rw[if_pos g,zy J.out]
      ·rw[if_neg g,if_neg k,if_neg (fun h=>m h.1),zy kj,zy J.out]
     clear C E R G r A k;go_wp2;go_roundw
     case rel=>exact⟨j+1,t,by omega,by go_num,rfl,D,I.out _⟩
     case measure=>simp[intOf];omega
   ·have ej:j=i:=by omega
    have c6:¬(j:Int)<(i:Int):=by omega
    have c2:Hid (t=SN d.p st i i):=by show t=_;rw[HT.out,ej]
    clear HT ej;go_wp2;go_ret;exact HD.out _ _ c2.out HB.out
theorem zjn(d:PlanD)(st:Nat)(c:(zD d.p).1=0)(a:st<2^64):∀i,i<=d.p.ns.length->zfE d st i:=by
 intro i;induction i using Nat.strongRecOn with
 |ind i ih=>exact fun hi=>zhB d st i c a hi fun j b=>ih j b (by omega)
end Go.Proofs.YtdajaaondlekfaaGreat
