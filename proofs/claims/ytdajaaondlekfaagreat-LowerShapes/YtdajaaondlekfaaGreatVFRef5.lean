import Derived.Test.YtdajaaondlekfaaGreatG26
import Derived.Test.YtdajaaondlekfaaGreatG29
import Derived.Test.YtdajaaondlekfaaGreatVWOf1
import Derived.Test.YtdajaaondlekfaaGreatG5
import Derived.Test.YtdajaaondlekfaaGreatG1
set_option maxHeartbeats 16000000
set_option maxRecDepth 20000
set_option linter.unusedSimpArgs false
namespace Go.Proofs.YtdajaaondlekfaaGreat
open Go.RowKit
theorem Tryz.info75:(Tryz.prog.info? 75).map (fun i=>(i.zero,i.size,i.bytes))=some (some (.int .u64 0),1,8):=by kernel_rfl
theorem zaI{W w:World}{n cap:Nat}{la:Option Addr}{zs:List Int}(v:Int)(b:w.ownsRow W.heap.size 75 1 (.slice la n cap) n (UU zs))(hb:Below W.heap.size W w)(x:n<=100000):
 ∃g a w',(Builtin.append_ #[32,32] 32 #[.slice la n cap,.slice (some ⟨w.heap.size,0,none⟩) 1 1]).run Tryz.prog (w.alloc (.cells #[.int .u64 v] 75))=.ok (.slice (some ⟨g,0,none⟩) (n+1) a) w'/\w'.ownsRow W.heap.size 75 1 (.slice (some ⟨g,0,none⟩) (n+1) a) (n+1) (UU (zs++[v]))/\Below W.heap.size W w':=by
 have l:(w.alloc (.cells #[.int .u64 v] 75)).ownsRow W.heap.size 75 1 (.slice la n cap) n (UU zs):=zU b (ze (zof _ _));have d:Below W.heap.size W (w.alloc (.cells #[.int .u64 v] 75)):=ze hb;obtain⟨g,a,w',f,r1,s,_⟩:=xL (c:=1) (ad:=⟨w.heap.size,0,none⟩) (news:=[.int .u64 v]) (m:=1) 32 Tryz.underlying32 Tryz.info75 rfl (by decide) l rfl (fun j u i=>by
  obtain rfl:j=0:=by
   have:=(zok.1 i).1;simpa using this
  simp only[List.getElem?_cons_zero,zoo]at i;subst i;exact(zod _ _ _ _ rfl).trans rfl) (by simp[Value.oneCell']) (by omega) (by unfold maxLen;omega) (by omega) d.size
 refine⟨g,a,w',f,zm4 r1 rfl,d.grown s d.size ?_⟩;intro k o;cases la with
 |none=>simp[Value.ownBlock]at o
 |some ad=>
  rcases b.2 with⟨h,_⟩|⟨t,c0,r,e,q,_⟩
  ·cases h
  ·simp only[zox,zoo,true_and]at e;obtain⟨rfl,rfl⟩:=e;simp[Value.ownBlock]at o;omega
theorem zaJ{p:PPlan}{st j:Nat}(a:j<=p.ns.length):(kV p st).take (j+1)=(kV p st).take j++[((SN p st j j:Nat):Int)]:=by
 have:(kV p st)[j]?=some ((SN p st j j:Nat):Int):=by
  unfold kV;rw[zoy,List.getElem?_range (by omega)]
  rfl
 rw[zoI,this];rfl
theorem zhC(p:PPlan)(st:Nat):(kV p st).length=p.ns.length+1:=by simp[kV]
theorem zjo{p:PPlan}{st:Nat}(a:st<2^64):∀n∈kV p st,0<=n/\n<18446744073709551616:=by
 intro n b;obtain⟨j,_,rfl⟩:=zoJ.1 b;have:=qR (p:=p) a j j;omega
theorem zfF(d:PlanD)(w:World)(hl:d.lie w)(hs:d.p.little):Calls Tryz.prog 6 #[d.v] w (kF d.p w):=by
 obtain⟨X,hW⟩:∃X,X=((w.alloc (.cells #[.slice d.heads.a d.heads.n d.heads.c,.slice d.mta.a d.mta.n d.mta.c,.slice d.states.a d.states.n d.states.c,.slice d.acts.a d.acts.n d.acts.c,.slice d.tabs.a d.tabs.n d.tabs.c,.slice d.nodes.a d.nodes.n d.nodes.c,.slice d.out.a d.out.n d.out.c] 29)).alloc (.cells #[.int .i64 0,.int .i64 0] 34)):=⟨_,rfl⟩;obtain⟨s,es⟩:∃s,s=w.heap.size:=⟨_,rfl⟩;obtain⟨f,ef⟩:∃f,f=w.heap.size+1:=⟨_,rfl⟩;have HA:Hid (WlkAt d w X s f):=by rw[hW,es,ef];exact zaS d w
 have t:Hid (Below w.heap.size w X):=by rw[hW];exact ze (ze (zof _ _))
 have b1:=hid (zgv d X (hl.step t.out) hs);have EW:=hid hW;have ES:=hid es;have EF:=hid ef;have HL:=hid hl;clear hl hs hW es ef;go_enter Tryz.func6,Tryz.ntmps6
 go_wp2_with fail
 rw[<-EW.out,<-EF.out,<-ES.out];refine b1.out.mono ?_;rintro e w1 ⟨C,A,sa,sn,sc,rfl,hi,b2,b7,W⟩;clear b1 EW ES EF;obtain⟨g,hW3⟩:∃g,g=w1.alloc (.cells #[.int .i64 C,.int .i64 A] 34):=⟨_,rfl⟩;obtain⟨f2,ef2⟩:∃f2,f2=w1.heap.size:=⟨_,rfl⟩;have b3:Below w1.heap.size w1 g:=by rw[hW3];exact ze (zof _ _)
 have V:Below X.heap.size X g:=zh W b3;have b:=hid (HA.out.step V);have G:=hid (zh t.out V);have y0:g.cell? ⟨f2,0,none⟩=some (.int .i64 C):=by rw[hW3,ef2];exact(zod _ _ _ _ rfl).trans rfl
 have y1:g.cell? ⟨f2,1,none⟩=some (.int .i64 A):=by rw[hW3,ef2];exact(zod _ _ _ _ rfl).trans rfl
 have e3:f2≠f:=by have:=HA.out.fl;have:=W.size;omega
 have a1:Hid (∀h:(zD d.p).1=0,C=0->SetsRow g sa sn (APp d.p h d.p.ss.length)):=fun h hc=>(b7 h hc).step b3
 have HI:=hid hi;have a5:=hid b2;have I:=hid hW3;have J:=hid ef2;clear W b3 V HA t hW3 ef2 hi b2 b7;by_cases hC:C=0
 ·subst hC;obtain⟨rfl,hc⟩:=zbU HI.out;have HC:=hid hc;have en:d.p.ns.length=d.nodes.n:=by simp[PlanD.p,HL.out.ns.1]
  have e8:d.p.ss.length=d.states.n:=by simp[PlanD.p,HL.out.ss.1]
  have d6:d.nodes.n<=10:=by have:(d.p.ns.length:Int)<=10:=(zB hc 5 (by decide)).2.1;omega
  obtain⟨c5,sg,rfl,b6⟩:=a1.out HC.out rfl;have d0:(APp d.p HC.out d.p.ss.length).length=d.p.ss.length+1:=(jS HC.out (zos _)).1;obtain⟨S,hS⟩:∃S,S=(APp d.p HC.out d.p.ss.length).getD d.p.ss.length Wk.zero:=⟨_,rfl⟩;have b4:(APp d.p HC.out d.p.ss.length)[d.p.ss.length]?=some S:=by
   rw[hS,zoi,zoh (by omega)];rfl
  obtain⟨t0,t1,t2,t3,t4⟩:=b6 _ S b4;rw[e8]at t0 t1 t2 t3 t4;have e4:(d.states.n:Int)<(sn:Int):=by omega
  have P:Hid (xo d.p HC.out=if S.there=true then S.must else zF):=by show xo d.p HC.out=_;unfold xo;rw[<-hS]
  obtain⟨st,hst⟩:∃st,st=xo d.p HC.out:=⟨_,rfl⟩;have a4:Hid (st<2^64):=by rw[hst];exact zdg HC.out
  have H:=hid hst;have O:=hid en;have a6:=b.out.cs.2.2.1;have b0:Hid (Below g.heap.size g g):=zof _ _;have U:Hid (g.ownsRow g.heap.size 75 1 (.slice none 0 0) 0 (UU ((kV d.p st).take 0))):=zoH _ _ _ _;have T:Hid (∀i w',i<=d.nodes.n->Below g.heap.size g w'->Calls Tryz.prog 15 #[d.v,.int .u64 (st:Int),.int .i64 (i:Int)] w' fun e F=>e=.returned (.int .u64 (SN d.p st i i:Nat))/\Below w'.heap.size w' F):=fun i w' hi h=>zjn d st HC.out a4.out i (by rw[O.out];exact hi) w' (HL.out.step (zh G.out h))
  have c6:Hid (∀i w',i<d.nodes.n->Below g.heap.size g w'->Calls Tryz.prog 16 #[d.v,.int .i64 (i:Int),.int .u64 (SN d.p st i i:Nat)] w' (yX d.p (SN d.p st i i) (d.p.ns.getD i PNode.z) w')):=fun i w' hi h=>by
   obtain⟨x,hx,d4⟩:=zhA (HL.out.step (zh G.out h)) hi;have ho:=za3 HC.out (i:=i) (by rw[O.out];exact hi)
   rw[d4]at ho ⊢;exact zdj d _ i x (HL.out.step (zh G.out h)) HC.out (qR a4.out i i) hi hx ho
  have Q:Hid (∀wr,Below g.heap.size g wr->wr.cell? ⟨f,0,none⟩=some (.int .i64 0)/\wr.cell? ⟨f,1,none⟩=some (.int .i64 0)/\wr.frozen? ⟨f,0,none⟩=false/\wr.frozen? ⟨f,1,none⟩=false):=fun wr h=>⟨za b.out.f0 h,za b.out.f1 h,(h.frozen (p:=⟨f,0,none⟩) b.out.fl).trans (b.out.fz 0),(h.frozen (p:=⟨f,1,none⟩) b.out.fl).trans (b.out.fz 1)⟩
  have R:Hid (∀wr x y,Below g.heap.size g wr->Below w.heap.size w ((wr.setCell ⟨f,0,none⟩ x).setCell ⟨f,1,none⟩ y)):=fun wr x y h=>((zh G.out h).setCell (p:=⟨f,0,none⟩) b.out.wf _).setCell (p:=⟨f,1,none⟩) b.out.wf _
  have b9:Hid (∀wr,Below g.heap.size g wr->wr.cell? ⟨s,0,none⟩=some (.slice d.heads.a d.heads.n d.heads.c)/\wr.cell? ⟨s,1,none⟩=some (.slice d.mta.a d.mta.n d.mta.c)/\wr.cell? ⟨s,2,none⟩=some (.slice d.states.a d.states.n d.states.c)/\wr.cell? ⟨s,3,none⟩=some (.slice d.acts.a d.acts.n d.acts.c)/\wr.cell? ⟨s,4,none⟩=some (.slice d.tabs.a d.tabs.n d.tabs.c)/\wr.cell? ⟨s,5,none⟩=some (.slice d.nodes.a d.nodes.n d.nodes.c)/\wr.cell? ⟨s,6,none⟩=some (.slice d.out.a d.out.n d.out.c)):=fun wr h=>kW b.out.cs h
  have d8:s<g.heap.size:=zog _ _ b.out.cs.1;have c4:Hid (f<g.heap.size):=b.out.fl;clear hc en e8 c5 d0 hS b4 hst b6 a5 a1;cases hT:S.there
  case' true=>
   rw[hT]at t4;have e:st=S.must:=by rw[H.out,P.out,if_pos hT]
   have b5:Hid (∀i w',i<=d.nodes.n->Below g.heap.size g w'->Calls Tryz.prog 15 #[d.v,.int .u64 (S.must:Int),.int .i64 (i:Int)] w' fun e F=>e=.returned (.int .u64 (SN d.p st i i:Nat))/\Below w'.heap.size w' F):=by
    have:=T.out;rw[show(.int .u64 (st:Int):Value)=.int .u64 (S.must:Int)by rw[e]]at this
    exact this
   clear e hT P T;go_upto_region 4 with fail
   rw[<-I.out,<-J.out];clear I J y0 y1 b;go_wp2;clear t0 t1 t2 t3 t4 a6
  case' false=>
   rw[hT]at t4;have e:st=zF:=by rw[H.out,P.out,if_neg (by rw[hT];decide)]
   have b5:Hid (∀i w',i<=d.nodes.n->Below g.heap.size g w'->Calls Tryz.prog 15 #[d.v,.int .u64 18446744073709551615,.int .i64 (i:Int)] w' fun e F=>e=.returned (.int .u64 (SN d.p st i i:Nat))/\Below w'.heap.size w' F):=by
    have:=T.out;rw[show(.int .u64 (st:Int):Value)=.int .u64 18446744073709551615 by rw[e];rfl]at this
    exact this
   clear e hT P T;go_upto_region 4 with fail
   rw[<-I.out,<-J.out];clear I J y0 y1 b;go_wp2;clear t0 t1 t2 t3 t4 a6
  all_goals
   go_loopw [8,7,9,10,11,12] (fun q ov _ _ _ _ wr=>∃(i:Nat) (la:Option Addr) (lc:Nat),i<=d.nodes.n+1/\q=.int .i64 i/\ov=.slice la i lc/\Hid (wr.ownsRow g.heap.size 75 1 (.slice la i lc) i (UU ((kV d.p st).take i)))/\Hid (∀k,k<i->k<d.nodes.n->¬jD d.p st k)/\Hid (Below g.heap.size g wr)) (fun q _ _ _ _ _ _=>d.nodes.n+1-(intOf q).toNat)
   case atStart=>exact⟨0,none,0,zon _,rfl,rfl,U,fun k M=>absurd M (zoN _),b0⟩
   case round=>
    obtain⟨i,la,lc,hi,rfl,rfl,u,r,t⟩:=hrel;clear b0 U;obtain⟨x0,x1,x2,x3,x4,x5,x6⟩:=b9.out wr t.out;by_cases d1:i<=d.nodes.n
    ·have c9:(i:Int)<=(d.nodes.n:Int):=by omega
     obtain⟨mu,hmu⟩:∃mu,mu=SN d.p st i i:=⟨_,rfl⟩;have a3:=hid (b5.out i wr d1 t.out);rw[<-hmu]at a3;have D:=hid hmu;have a0:IntKind.i64.wrap (6000+(i:Int))=6000+(i:Int):=zX _ (by omega) (by omega)
     clear hmu;go_wp2_with fail
     refine a3.out.mono ?_;rintro e w4 ⟨rfl,a2⟩;have l:=hid a2;obtain⟨y0,y1,y2,y3,y4,y5,y6⟩:=b9.out w4 (zh t.out a2);clear a3 x0 x1 x2 x3 x4 x5 x6 a2;by_cases a8:i<d.nodes.n
     ·have a7:(i:Int)<(d.nodes.n:Int):=by omega
      by_cases h1:mu=zF
      ·have he:((mu:Int) !=18446744073709551615)=false:=by rw[h1];rfl
       have RP:Hid (∀k,k<i+1->k<d.nodes.n->¬jD d.p st k):=fun k M L=>by
        by_cases e:k=i
        ·subst e;exact fun h=>h.1 (D.out.symm.trans h1)
        ·exact r.out k (by omega) L
       clear r a0 h1;obtain⟨g6,B,K,o,E,m⟩:=zaI (mu:Int) (zU u.out l.out) (zh t.out l.out) (by omega)
       have RO:Hid (K.ownsRow g.heap.size 75 1 (.slice (some ⟨g6,0,none⟩) (i+1) B) (i+1) (UU ((kV d.p st).take (i+1)))):=by
        show K.ownsRow _ _ _ _ _ _;rw[zaJ (by have:=O.out;omega),<-D.out]
        exact E
       have RB:=hid m;clear E m u t l;go_wp2_with (at_builtin;refine yg rfl _ _ rfl rfl rfl o ?_)
       go_roundw
       case rel=>exact⟨i+1,_,_,by omega,by go_num,rfl,RO,RP,RB⟩
       case measure=>simp[intOf];omega
      ·have he:((mu:Int) !=18446744073709551615)=true:=by
        rw[bne_iff_ne];intro h;exact h1 (by unfold zF;omega)
       have HK:=hid (c6.out i w4 a8 (zh t.out l.out));unfold yX at HK;rw[<-D.out]at HK;obtain⟨KB,hKB⟩:∃KB,KB=yB d.p mu (d.p.ns.getD i PNode.z):=⟨_,rfl⟩;rw[<-hKB]at HK;have a9:=hid hKB;have c8:=hid h1;clear hKB h1;generalize jd d.p mu (d.p.ns.getD i PNode.z)=Y at*;generalize noN mu (d.p.ns.getD i PNode.z)=N at*;go_wp2_with fail
       refine HK.out.mono ?_;rintro e w5 ⟨rfl,b8⟩;have c2:=hid (zh l.out b8);clear HK b8 l y0 y1 y2 y3 y4 y5 y6;have l:=c2;clear c2;cases KB with
       |true=>
        have RP:Hid (∀k,k<i+1->k<d.nodes.n->¬jD d.p st k):=fun k M L=>by
         by_cases e:k=i
         ·subst e;exact fun h=>by have h2:=h.2;rw[<-D.out,<-a9.out]at h2;cases h2
         ·exact r.out k (by omega) L
        clear r a0;obtain⟨g6,B,K,o,E,m⟩:=zaI (mu:Int) (zU u.out l.out) (zh t.out l.out) (by omega)
        have RO:Hid (K.ownsRow g.heap.size 75 1 (.slice (some ⟨g6,0,none⟩) (i+1) B) (i+1) (UU ((kV d.p st).take (i+1)))):=by
         show K.ownsRow _ _ _ _ _ _;rw[zaJ (by have:=O.out;omega),<-D.out]
         exact E
        have RB:=hid m;clear E m u t l;go_wp2_with (at_builtin;refine yg rfl _ _ rfl rfl rfl o ?_)
        go_roundw
        case rel=>exact⟨i+1,_,_,by omega,by go_num,rfl,RO,RP,RB⟩
        case measure=>simp[intOf];omega
       |false=>
        have c1:Hid (∀w',Calls Tryz.prog 17 #[.int .i64 12,.int .i64 (6000+(i:Int))] w' fun e F=>e=.returned (.agg #[.int .i64 12,.int .i64 (6000+(i:Int))])/\Below w'.heap.size w' F):=fun w'=>zA _ _ _
        have HE:Hid (∀w',Below g.heap.size g w'->kF d.p w (.returned (.tuple #[.slice none 0 0,.agg #[.int .i64 12,.int .i64 (6000+(i:Int))]])) ((w'.setCell ⟨f,0,none⟩ (.int .i64 12)).setCell ⟨f,1,none⟩ (.int .i64 (6000+(i:Int))))):=fun w' h=>by
         refine⟨12,6000+(i:Int),none,0,0,rfl,.inr ⟨HC.out,HI.out,.inl ⟨i,by rw[O.out];exact a8,?_,?_,rfl,rfl⟩⟩,fun _=>⟨rfl,rfl,rfl⟩,fun _ h=>absurd h (by decide),R.out _ _ _ h⟩
         ·rw[<-H.out];exact⟨by rw[<-D.out];exact c8.out,by rw[<-D.out,<-a9.out]⟩
         ·rw[<-H.out];exact fun k M=>r.out k M (by omega)
        have Z:=hid (zh t.out l.out);clear r u R t l;go_wp2_with fail
        refine(c1.out _).mono ?_;rintro e K ⟨rfl,m⟩;have HF:=hid (HE.out K (zh Z.out m));obtain⟨f0,f1,g0,g1⟩:=Q.out K (zh Z.out m);clear c1 HE Z Q m;go_wp2;exact bodyPost_ret (v:=.tuple #[.slice none 0 0,.agg #[.int .i64 12,.int .i64 (6000+(i:Int))]]) (by simp[results,Tryz.results6,go_sem, *]) rfl HF.out
     ·have a7:¬(i:Int)<(d.nodes.n:Int):=by omega
      have d5:=zoX a7;have RP:Hid (∀k,k<i+1->k<d.nodes.n->¬jD d.p st k):=fun k M L=>r.out k (by omega) L
      clear r a0;obtain⟨g6,B,K,o,E,m⟩:=zaI (mu:Int) (zU u.out l.out) (zh t.out l.out) (by omega)
      have RO:Hid (K.ownsRow g.heap.size 75 1 (.slice (some ⟨g6,0,none⟩) (i+1) B) (i+1) (UU ((kV d.p st).take (i+1)))):=by
       show K.ownsRow _ _ _ _ _ _;rw[zaJ (by have:=O.out;omega),<-D.out]
       exact E
      have RB:=hid m;clear E m u t l;go_wp2_with (at_builtin;refine yg rfl _ _ rfl rfl rfl o ?_)
      go_roundw
      case rel=>exact⟨i+1,_,_,by omega,by go_num,rfl,RO,RP,RB⟩
      case measure=>simp[intOf];omega
    ·have ei:i=d.nodes.n+1:=by omega
     have c9:¬(i:Int)<=(d.nodes.n:Int):=by omega
     obtain⟨f0,f1,g0,g1⟩:=Q.out wr t.out;have HE:Hid (kF d.p w (.returned (.tuple #[.slice la i lc,.agg #[.int .i64 0,.int .i64 0]])) ((wr.setCell ⟨f,0,none⟩ (.int .i64 0)).setCell ⟨f,1,none⟩ (.int .i64 0))):=by
      refine⟨0,0,la,i,lc,rfl,.inr ⟨HC.out,HI.out,.inr ⟨fun k M=>?_,rfl,rfl⟩⟩,fun h=>absurd rfl h,fun h _=>?_,R.out _ _ _ t.out⟩
      ·rw[<-H.out];exact r.out k (by rw[O.out]at M;omega) (by rw[O.out]at M;exact M)
      ·have k1:But f wr ((wr.setCell ⟨f,0,none⟩ (.int .i64 0)).setCell ⟨f,1,none⟩ (.int .i64 0)):=set_but.trans set_but;have hw:=u.out;rw[List.take_of_length_le (by rw[zhC,O.out];omega)]at hw
       have hh:=ziu hw (zjo a4.out);rw[<-H.out];refine⟨hh.1,hh.2.1,.inr ?_⟩;obtain⟨bb,off,e1,c3,d3⟩:=hh.some (by omega)
       obtain⟨e0,d7,c0,e2,_⟩:=zkD hw (by omega)
       rw[e1]at c0;simp only[zoo,Addr.mk.injEq]at c0;have d2:bb≠f:=by have:=c4.out;omega
       exact⟨bb,off,e1,zom c3 k1.size,fun j hj=>k1.cell d2 (d3 j hj)⟩
     clear u t r R Q ei;go_wp2;exact bodyPost_ret (v:=.tuple #[.slice la i lc,.agg #[.int .i64 0,.int .i64 0]]) (by simp[results,Tryz.results6,go_sem, *]) rfl HE.out
 ·have d9:(C !=0)=true:=by rw[bne_iff_ne];exact hC
  have HE:Hid (∀w',Below g.heap.size g w'->kF d.p w (.returned (.tuple #[.slice none 0 0,.agg #[.int .i64 C,.int .i64 A]])) ((w'.setCell ⟨f,0,none⟩ (.int .i64 C)).setCell ⟨f,1,none⟩ (.int .i64 A))):=fun w' h=>
   ⟨C,A,none,0,0,rfl,.inl ⟨HI.out,hC⟩,fun _=>⟨rfl,rfl,rfl⟩,fun _ h0=>absurd h0 hC,((zh G.out h).setCell (p:=⟨f,0,none⟩) b.out.wf _).setCell (p:=⟨f,1,none⟩) b.out.wf _⟩
  have f0:=b.out.f0;have f1:=b.out.f1;have g0:=b.out.fz 0;have g1:=b.out.fz 1;clear HI a5 a1 hC G b;go_wp2_with fail
  rw[<-I.out,<-J.out];clear I J;go_region
  all_goals
   go_wp2;exact bodyPost_ret (v:=.tuple #[.slice none 0 0,.agg #[.int .i64 C,.int .i64 A]]) (by simp[results,Tryz.results6,go_sem, *]) rfl (HE.out _ (zof _ _).drew)
end Go.Proofs.YtdajaaondlekfaaGreat
