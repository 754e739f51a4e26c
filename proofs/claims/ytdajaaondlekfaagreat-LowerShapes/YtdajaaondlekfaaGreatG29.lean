import Derived.Test.YtdajaaondlekfaaGreatG24
import Derived.Test.YtdajaaondlekfaaGreatG28
import Derived.Deep.CutRange
import Derived.Test.YtdajaaondlekfaaGreatG19
set_option maxHeartbeats 16000000
set_option maxRecDepth 20000
set_option linter.unusedSimpArgs false
namespace Go.Proofs.YtdajaaondlekfaaGreat
open Go.RowKit
def yM(F:AS->Nat->AS)(st:AS):Nat->AS
 |0=>st
 |i+1=>F (yM F st i) i
def jZ(n:Nat)(ms:List Int):AS:=(zdp 0 (yV 0 n)++[xI 7 0],ms)
theorem zlo{b:World}{B:Nat}{ms:List Int}{w:World}{M:MkrD}(o:MkrAt M b)(h:St b B M.pa [] ms w)(n:Nat)(y:M.L.slots=(n:Int))(a2:n<=900)(a5:M.d.states.n<=300)(a4:M.d.nodes.n<=300)(F G:AS->Nat->AS)
 (hF:∀(i:Nat) (w':World),i<M.d.states.n->St b B M.pa (yM F (jZ n ms) i).1 (yM F (jZ n ms) i).2 w'->Calls Tryz.prog 44 #[M.v,.int .i64 (i:Int)] w' (Em b B M.pa w' (.tuple #[]) (F (yM F (jZ n ms) i) i).1 (F (yM F (jZ n ms) i) i).2))
 (W:∀(i:Nat) (w':World),i<M.d.nodes.n->St b B M.pa (yM G (yM F (jZ n ms) M.d.states.n) i).1 (yM G (yM F (jZ n ms) M.d.states.n) i).2 w'->Calls Tryz.prog 45 #[M.v,.int .i64 (i:Int)] w' (Em b B M.pa w' (.tuple #[]) (G (yM G (yM F (jZ n ms) M.d.states.n) i) i).1 (G (yM G (yM F (jZ n ms) M.d.states.n) i) i).2))
 (E:AS) (X:∀(w':World),St b B M.pa (yM G (yM F (jZ n ms) M.d.states.n) M.d.nodes.n).1 (yM G (yM F (jZ n ms) M.d.states.n) M.d.nodes.n).2 w'->Calls Tryz.prog 46 #[M.v] w' (Em b B M.pa w' (.tuple #[]) E.1 E.2)):
 Calls Tryz.prog 23 #[M.v] w (Em b B M.pa w (.tuple #[]) E.1 E.2):=by
 have c14:=(o.cov h.cov).box.c14;rw[y]at c14;have hl:=zog _ _ c14;have u:=hid (zn0 (lo:=8) c14 (by omega))
 have HM:=hid o;have H7:=hid (fun w' (t:Cov b w')=>o.c7 t)
 have H2:=hid (fun w' (t:Cov b w')=>(o.cov t).box.c2)
 have H5:=hid (fun w' (t:Cov b w')=>(o.cov t).box.c5)
 have HS:=hid h;have V:=hid hF;have N:=hid W;have j:=hid X;have T:=hid (zat 7 0);clear o h hF W X y;dsimp only[MkrD.v]at*;go_enter Tryz.func23,Tryz.ntmps23
 go_wp2_with fail
 refine u.out.mono ?_;rintro e w1 ⟨rfl,Z,I⟩;obtain⟨W1,S1,O,r⟩:=HS.out.wide I;have RW:IRow W1 w.heap.size (yV 0 n):=(r _ (zos _)).trans Z;have l:=hid (zml (HM.out.cov O.cov) S1 0 (by decide) (c:=n) (jr RW (by omega)) (fun z hz=>by have:=zeI hz;omega) (by show 0+1+n<=100000;omega))
 have Q:=hid O;have D:=hid (I.mono HS.out.lo);dsimp only[MkrD.v]at l;clear Z I S1 O r RW u;go_wp2_with fail
 refine l.out.mono ?_;rintro e K ⟨rfl,a⟩;have H:=a.1.less Q.out;have x:=hid (D.out.trans a.2);have c7:=H7.out K H.cov;have a3:=zog _ _ c7;have f:=hid (xy H [xI 7 0] #[.int .i64 1,.int .i64 7,.int .i64 0,.int .i64 0,.int .i64 0,.int .u64 0] rfl 1 rfl (xq (wfN (by decide) (by decide))) (by decide) (by simp only[zdp,List.nil_append,List.length_cons,zoE,qY];omega) 126)
 have B0:=hid (zof K.heap.size K);clear l a H D;go_wp2_with fail
 go_region_held3 (fun w'=>w'.cell? ⟨M.mb,7,none⟩=some (.pointer (some ⟨M.pa,0,none⟩))) (first|exact Y|exact za c7 (ze B0.out).drew|exact za c7 (ze (ze B0.out)).drew|go_keep) (first
  |(go_at_call 43;refine(T.out _).mono ?_;rintro e w5 ⟨o1,rfl,rfl⟩)
  |(go_at_call 42;refine(f.out _ _ (by simp) (ze B0.out)).mono ?_;rintro e P ⟨rfl,a⟩;have Y:=H7.out P a.1.cov))
 have U:Hid (St b B M.pa (yM F (jZ n ms) 0).1 (yM F (jZ n ms) 0).2 P):=a.1;have A:=hid (x.out.trans a.2);have c2:=H2.out P a.1.cov;have a1:=zog _ _ c2;clear f a c7 Y B0 x T;go_wp2;go_loopw [23,2] (fun k _ wr=>∃i:Nat,i<=M.d.states.n/\k=.int .i64 i/\Hid (St b B M.pa (yM F (jZ n ms) i).1 (yM F (jZ n ms) i).2 wr/\Below B w wr)) (fun k _ _=>M.d.states.n-(intOf k).toNat)
 case atStart=>exact⟨0,zon _,rfl,U.out,A.out⟩
 case round=>
  obtain⟨i,hi,rfl,J⟩:=hrel;by_cases g:i<M.d.states.n
  ·have m:(i:Int)<(M.d.states.n:Int):=by omega
   have f:=hid (V.out i wr g J.out.1);have s:=hid J.out.2;clear J;go_wp2_with fail
   refine f.out.mono ?_;rintro e q ⟨rfl,a⟩;have R:Hid (St b B M.pa (yM F (jZ n ms) (i+1)).1 (yM F (jZ n ms) (i+1)).2 q/\Below B w q):=⟨a.1,s.out.trans a.2⟩;clear f a;go_wp2;go_roundw
   case rel=>exact⟨i+1,by omega,by go_num,R.out⟩
   case measure=>simp[intOf];omega
  ·have m:¬(i:Int)<(M.d.states.n:Int):=by omega
   obtain rfl:i=M.d.states.n:=by omega
   have S:=hid J.out.1;have C:=hid J.out.2;have c5:=H5.out wr J.out.1.cov;have a0:=zog _ _ c5;obtain⟨ST,hST⟩:∃st,st=yM F (jZ n ms) M.d.states.n:=⟨_,rfl⟩;rw[<-hST]at S N j;clear J hST U A c2 V;go_wp2;go_loopw [36,3] (fun k _ wr=>∃i:Nat,i<=M.d.nodes.n/\k=.int .i64 i/\Hid (St b B M.pa (yM G ST i).1 (yM G ST i).2 wr/\Below B w wr)) (fun k _ _=>M.d.nodes.n-(intOf k).toNat)
   case atStart=>exact⟨0,zon _,rfl,S.out,C.out⟩
   case round=>
    obtain⟨i,hi,rfl,J⟩:=hrel;by_cases g:i<M.d.nodes.n
    ·have m:(i:Int)<(M.d.nodes.n:Int):=by omega
     rename World=>wz
     have f:=hid (N.out i wz g J.out.1);have s:=hid J.out.2;clear J;go_wp2_with fail
     refine f.out.mono ?_;rintro e q ⟨rfl,a⟩;have R:Hid (St b B M.pa (yM G ST (i+1)).1 (yM G ST (i+1)).2 q/\Below B w q):=⟨a.1,s.out.trans a.2⟩;clear f a;go_wp2;go_roundw
     case rel=>exact⟨i+1,by omega,by go_num,R.out⟩
     case measure=>simp[intOf];omega
    ·have m:¬(i:Int)<(M.d.nodes.n:Int):=by omega
     obtain rfl:i=M.d.nodes.n:=by omega
     rename World=>wz
     have f:=hid (j.out wz J.out.1);have s:=hid J.out.2;clear J S C N j;go_wp2_with fail
     refine f.out.mono ?_;rintro e q ⟨rfl,a⟩;have a:=hid a;clear f;go_wp2;exact bodyPost_ret (v:=.tuple #[]) (by simp[results,Tryz.results23,go_sem]) rfl ⟨rfl,a.out.1,s.out.trans a.out.2⟩
def xo(p:PPlan)(h:(zD p).1=0):Nat:=if((APp p h p.ss.length).getD p.ss.length Wk.zero).there=true then((APp p h p.ss.length).getD p.ss.length Wk.zero).must else zF
theorem zdg{p:PPlan}(h:(zD p).1=0):xo p h<2^64:=by
 unfold xo;split
 ·have b:(APp p h p.ss.length).length=p.ss.length+1:=(jS h (zos _)).1;have a:(APp p h p.ss.length).getD p.ss.length Wk.zero∈APp p h p.ss.length:=by
   rw[zoi,zoh (by omega)]
   exact List.getElem_mem _
  exact xm (zei h (zos _) _ a).1
 ·exact kj
def qp(p:PPlan)(C A:Int):Prop:=(qL p C A/\C≠0)\/∃h:(zD p).1=0,qL p 0 0/\zfC p (xo p h) C A
def kF(p:PPlan)(w:World)(e:Ending)(w':World):Prop:=∃(C A:Int) (a:Option Addr) (n c:Nat),e=.returned (.tuple #[.slice a n c,.agg #[.int .i64 C,.int .i64 A]])/\qp p C A/\(C≠0->a=none/\n=0/\c=0)/\(∀h:(zD p).1=0,C=0->Has .u64 w' a n (kV p (xo p h)))/\Below w.heap.size w w'
theorem zbU{p:PPlan}{A:Int}(h:qL p 0 A):A=0/\(zD p).1=0:=by
 rcases h with⟨a,h2,_⟩|⟨a,⟨i,_,b,_,h2,_⟩|⟨_,_,h2⟩⟩
 ·exact absurd h2.symm a
 ·exact absurd h2.symm b
 ·exact⟨h2,a⟩
theorem zlf{g m:Nat}{A:List Nat}{w:World}(h:AhU g A w)(d:A.length=m)(b:∀a∈A,a<2^64):Has .u64 w (some ⟨g,0,none⟩) m (A.map fun(n:Nat)=>(n:Int)):=by
 refine⟨by simpa using d,fun n e=>?_,.inr ⟨g,0,rfl,h.lt,fun i hi=>?_⟩⟩
 ·obtain⟨a,ha,rfl⟩:=zoJ.1 e;have:=b a ha;simp[Lit.wf,IntKind.min,IntKind.max,IntKind.bits,IntKind.signed];omega
 ·have c:A[i]?=some A[i]:=zoh (by omega)
  rw[zoK,h.cs i _ c,zoi,zoy,c];rfl
theorem zco{p:PPlan}{st m:Nat}(b:m=p.ns.length+1)(a:st<2^64):(List.replicate m zF).set 0 (zF&&& st)=xG p st 0:=by
 subst b;rw[zaY a];refine List.ext_getElem? fun j=>?_
 rw[List.getElem?_set];by_cases c:j<=p.ns.length
 ·rw[za1 c];by_cases e:0=j
  ·subst e;rw[if_pos rfl,if_pos (by simp)]
   rfl
  ·rw[if_neg e,List.getElem?_replicate,if_pos (by omega)]
   unfold SN;rw[if_neg (by omega)]
 ·rw[if_neg (by omega),List.getElem?_eq_none (by simp;omega),List.getElem?_eq_none (by rw[jW];omega)]
theorem zes{p:PPlan}{m:Nat}(a:m=p.ns.length+1):List.replicate m zF=xG p zF 0:=by
 rw[<-zco a kj];have e:zF&&& zF=zF:=zy kj;rw[e];refine(zep ?_).symm;rw[List.getElem?_replicate,if_pos (by omega)]
@[reducible] def zmH(d:PlanD)(g m v:Nat)(w:World):World:=((((((((w.setCell ⟨v,0,none⟩ (.slice d.heads.a d.heads.n d.heads.c)).setCell ⟨v,1,none⟩ (.slice d.mta.a d.mta.n d.mta.c)).setCell ⟨v,2,none⟩ (.slice d.states.a d.states.n d.states.c)).setCell ⟨v,3,none⟩ (.slice d.acts.a d.acts.n d.acts.c)).setCell ⟨v,4,none⟩ (.slice d.tabs.a d.tabs.n d.tabs.c)).setCell ⟨v,5,none⟩ (.slice d.nodes.a d.nodes.n d.nodes.c)).setCell ⟨v,6,none⟩ (.slice d.out.a d.out.n d.out.c)).setCell ⟨v,7,none⟩ (.slice (some ⟨g,0,none⟩) m m))
theorem za0(d:PlanD)(g m v:Nat)(w:World):But v w (zmH d g m v w):=(((((((set_but.trans set_but).trans set_but).trans set_but).trans set_but).trans set_but).trans set_but).trans set_but)
theorem zlg{d:PlanD}{g m v:Nat}{w:World}(h:∀i,i<8->w.cell? ⟨v,i,none⟩=some (.slice none 0 0)):WkF d g m v (zmH d g m v w):=by
 have c:∀{W:World} {i j:Nat} {x:Value} {u:Value},W.cell? ⟨v,i,none⟩=some x->(W.setCell ⟨v,j,none⟩ u).cell? ⟨v,i,none⟩=some (if j=i then u else x):=fun{W i j x u} a=>by
  by_cases e:j=i
  ·subst e;rw[if_pos rfl];exact zot _ _ _ a
  ·rw[if_neg e];exact zp a e
 intro i x a;have hi:i<8:=(zoj.1 a).1;have h0:=h i hi;refine(c (c (c (c (c (c (c (c h0)))))))).trans ?_;rcases(show i=0\/i=1\/i=2\/i=3\/i=4\/i=5\/i=6\/i=7 by omega)with rfl|rfl|rfl|rfl|rfl|rfl|rfl|rfl
 all_goals
  rw[<-a];rfl
theorem WlkAt.but{d:PlanD}{w W a:World}{s f g:Nat}(h:WlkAt d w W s f)(b:But g W a)(hs:s≠g)(hf:f≠g):WlkAt d w a s f:=by
 obtain⟨⟨c0,c1,c2,c3,c4,c5,c6⟩,f0,f1,fz,fl,wf,sl⟩:=h;exact⟨⟨b.cell hs c0,b.cell hs c1,b.cell hs c2,b.cell hs c3,b.cell hs c4,b.cell hs c5,b.cell hs c6⟩,b.cell hf f0,b.cell hf f1,fun o=>(b.frozen hf fl).trans (fz o),zom fl b.size,wf,sl⟩
structure zjc (d : PlanD) (W3 : World) (m v g : Nat) (w : World) : Prop where
 wk : WkF d g m v w
 ah : AhU g (List.replicate m zF) w
 bl : Below W3.heap.size W3 w
 ne : v ≠ g
 gl : W3.heap.size <= g
 vl : W3.heap.size <= v
theorem flA(d:PlanD){b W a:World}{m g:Nat}(e:Below b.heap.size b W)(hb:Below W.heap.size W a)(f:W.heap.size<=g)(ha:AhU g (List.replicate m zF) a):zjc d b m a.heap.size g (a.alloc (.cells (zli d g m) 156)):=by
 have c:Below b.heap.size b a:=zh e hb;exact⟨zgP d g m a,ha.step (ze (zof _ _)),ze c,by have:=ha.lt;omega,zoz e.size f,c.size⟩
theorem flB(d:PlanD){c W a:World}{m g v:Nat}(f:Below c.heap.size c W)(l:v<W.heap.size)(b:c.heap.size<=v)(hb:Below W.heap.size W a)(k:W.heap.size<=g)(ha:AhU g (List.replicate m zF) a)(j:∀i,i<8->W.cell? ⟨v,i,none⟩=some (.slice none 0 0)):zjc d c m v g (zmH d g m v a):=by
 have h:g≠v:=by omega
 have e:=zh f hb;exact⟨zlg fun i hi=>za (j i hi) hb,ha.but (za0 d g m v a) h,e.trans ((za0 d g m v a).low.mono b),Ne.symm h,zoz f.size k,b⟩
theorem zjd{w w':World}{s v:Nat}{v0 v1 v2 v3 v4 v5 v6:Value}(a:s≠v)(h:w.cell? ⟨s,0,none⟩=some v0/\w.cell? ⟨s,1,none⟩=some v1/\w.cell? ⟨s,2,none⟩=some v2/\w.cell? ⟨s,3,none⟩=some v3/\w.cell? ⟨s,4,none⟩=some v4/\w.cell? ⟨s,5,none⟩=some v5/\w.cell? ⟨s,6,none⟩=some v6)(k:But v w w'):w'.cell? ⟨s,0,none⟩=some v0/\w'.cell? ⟨s,1,none⟩=some v1/\w'.cell? ⟨s,2,none⟩=some v2/\w'.cell? ⟨s,3,none⟩=some v3/\w'.cell? ⟨s,4,none⟩=some v4/\w'.cell? ⟨s,5,none⟩=some v5/\w'.cell? ⟨s,6,none⟩=some v6:=by
 obtain⟨h0,f,h2,c,d,e,b⟩:=h;exact⟨k.cell a h0,k.cell a f,k.cell a h2,k.cell a c,k.cell a d,k.cell a e,k.cell a b⟩
theorem zje(d:PlanD)(w:World)(hl:d.lie w)(hs:d.small):Calls Tryz.prog 34 #[d.v] w (kF d.p w):=by
 obtain⟨W2,hW⟩:∃W2,W2=((w.alloc (.cells #[.slice d.heads.a d.heads.n d.heads.c,.slice d.mta.a d.mta.n d.mta.c,.slice d.states.a d.states.n d.states.c,.slice d.acts.a d.acts.n d.acts.c,.slice d.tabs.a d.tabs.n d.tabs.c,.slice d.nodes.a d.nodes.n d.nodes.c,.slice d.out.a d.out.n d.out.c] 29)).alloc (.cells #[.int .i64 0,.int .i64 0] 34)):=⟨_,rfl⟩;obtain⟨s,es⟩:∃s,s=w.heap.size:=⟨_,rfl⟩;obtain⟨f,ef⟩:∃f,f=w.heap.size+1:=⟨_,rfl⟩;have HA:Hid (WlkAt d w W2 s f):=by rw[hW,es,ef];exact zaS d w
 have HB:Hid (Below w.heap.size w W2):=by rw[hW];exact ze (ze (zof _ _))
 have e4:=hid (zk2 d W2 (hl.step HB.out) hs);have EW:=hid hW;have ES:=hid es;have EF:=hid ef;have HL:=hid hl;clear hl hs hW es ef;go_enter Tryz.func34,Tryz.ntmps34
 go_wp2_with fail
 rw[<-EW.out,<-EF.out,<-ES.out];refine e4.out.mono ?_;rintro e w1 ⟨C,A,sa,sn,sc,rfl,hi,e6,e9,d2⟩;clear e4 EW ES EF;obtain⟨b,hW3⟩:∃b,b=w1.alloc (.cells #[.int .i64 C,.int .i64 A] 34):=⟨_,rfl⟩;obtain⟨f2,ef2⟩:∃f2,f2=w1.heap.size:=⟨_,rfl⟩;have b3:Below w1.heap.size w1 b:=by rw[hW3];exact ze (zof _ _)
 have c8:Below W2.heap.size W2 b:=zh d2 b3;have o:=hid (HA.out.step c8);have B:=hid (zh HB.out c8);have y0:b.cell? ⟨f2,0,none⟩=some (.int .i64 C):=by rw[hW3,ef2];exact(zod _ _ _ _ rfl).trans rfl
 have y1:b.cell? ⟨f2,1,none⟩=some (.int .i64 A):=by rw[hW3,ef2];exact(zod _ _ _ _ rfl).trans rfl
 have e5:f2≠f:=by have:=HA.out.fl;have:=d2.size;omega
 have d7:Hid (∀h:(zD d.p).1=0,C=0->SetsRow b sa sn (APp d.p h d.p.ss.length)):=fun h hc=>(e9 h hc).step b3
 have HI:=hid hi;have e0:=hid e6;have L:=hid hW3;have N:=hid ef2;clear d2 b3 c8 HA HB hW3 ef2 hi e6 e9;by_cases hC:C=0
 ·subst hC;obtain⟨rfl,hc⟩:=zbU HI.out;have HC:=hid hc;have en:d.p.ns.length=d.nodes.n:=by simp[PlanD.p,HL.out.ns.1]
  have c6:d.nodes.n<=10:=by have:(d.p.ns.length:Int)<=10:=(zB hc 5 (by decide)).2.1;omega
  obtain⟨f6,sg,rfl,e8⟩:=d7.out HC.out rfl;obtain⟨m,hm⟩:∃m,m=d.nodes.n+1:=⟨_,rfl⟩;have d4:(d.nodes.n:Int)+1=(m:Int):=by omega
  have E:m<=11:=by omega
  have V:1<=m:=by omega
  have c9:IntKind.i64.wrap (m:Int)=(m:Int):=zX _ (by omega) (by omega)
  have HM:=hid hm;have EN:=hid en;have d5:(APp d.p HC.out d.p.ss.length).length=d.p.ss.length+1:=(jS HC.out (zos _)).1;have e7:sn=d.p.ss.length+1:=by omega
  have a6:=hid e7;have W:=hid e8;have b5:Hid (Calls Tryz.prog 67 #[.slice (some ⟨b.heap.size,0,none⟩) 1 1,.int .i64 (m:Int)] (b.alloc (.cells #[.int .u64 18446744073709551615] 75)).drew (za4 m (b.alloc (.cells #[.int .u64 18446744073709551615] 75)).drew)):=zaK _ m _ ((zod _ _ _ _ rfl).trans rfl) V E;have b1:Hid (Calls Tryz.prog 67 #[.slice (some ⟨b.heap.size,0,none⟩) 1 1,.int .i64 (m:Int)] ((b.alloc (.cells #[.int .u64 18446744073709551615] 75)).alloc (.cells #[.slice none 0 0,.slice none 0 0,.slice none 0 0,.slice none 0 0,.slice none 0 0,.slice none 0 0,.slice none 0 0,.slice none 0 0] 156)).drew (za4 m ((b.alloc (.cells #[.int .u64 18446744073709551615] 75)).alloc (.cells #[.slice none 0 0,.slice none 0 0,.slice none 0 0,.slice none 0 0,.slice none 0 0,.slice none 0 0,.slice none 0 0,.slice none 0 0] 156)).drew)):=zaK _ m _ ((zoe _ _ _ (by simp)).trans ((zod _ _ _ _ rfl).trans rfl)) V E
  have a9:Hid (Calls Tryz.prog 67 #[.slice (some ⟨b.heap.size+1,0,none⟩) 1 1,.int .i64 (m:Int)] ((b.alloc (.cells #[.slice none 0 0,.slice none 0 0,.slice none 0 0,.slice none 0 0,.slice none 0 0,.slice none 0 0,.slice none 0 0,.slice none 0 0] 156)).alloc (.cells #[.int .u64 18446744073709551615] 75)).drew (za4 m ((b.alloc (.cells #[.slice none 0 0,.slice none 0 0,.slice none 0 0,.slice none 0 0,.slice none 0 0,.slice none 0 0,.slice none 0 0,.slice none 0 0] 156)).alloc (.cells #[.int .u64 18446744073709551615] 75)).drew)):=zaK _ m _ ((zod _ _ _ _ (by simp)).trans rfl) V E
  have c1:Hid (∀i,i<8->((b.alloc (.cells #[.int .u64 18446744073709551615] 75)).alloc (.cells #[.slice none 0 0,.slice none 0 0,.slice none 0 0,.slice none 0 0,.slice none 0 0,.slice none 0 0,.slice none 0 0,.slice none 0 0] 156)).drew.cell? ⟨b.heap.size+1,i,none⟩=some (.slice none 0 0)):=fun i hi=>by
   rcases(show i=0\/i=1\/i=2\/i=3\/i=4\/i=5\/i=6\/i=7 by omega)with rfl|rfl|rfl|rfl|rfl|rfl|rfl|rfl<;>exact(zod _ _ _ _ (by simp)).trans rfl
  have c2:Hid (∀i,i<8->((b.alloc (.cells #[.slice none 0 0,.slice none 0 0,.slice none 0 0,.slice none 0 0,.slice none 0 0,.slice none 0 0,.slice none 0 0,.slice none 0 0] 156)).alloc (.cells #[.int .u64 18446744073709551615] 75)).drew.cell? ⟨b.heap.size,i,none⟩=some (.slice none 0 0)):=fun i hi=>by
   rcases(show i=0\/i=1\/i=2\/i=3\/i=4\/i=5\/i=6\/i=7 by omega)with rfl|rfl|rfl|rfl|rfl|rfl|rfl|rfl<;>exact(zoe _ _ _ (by simp)).trans ((zod _ _ _ _ rfl).trans rfl)
  have X:Hid (Below b.heap.size b (b.alloc (.cells #[.int .u64 18446744073709551615] 75)).drew):=(ze (zof _ _)).drew;have a5:Hid (Below b.heap.size b ((b.alloc (.cells #[.int .u64 18446744073709551615] 75)).alloc (.cells #[.slice none 0 0,.slice none 0 0,.slice none 0 0,.slice none 0 0,.slice none 0 0,.slice none 0 0,.slice none 0 0,.slice none 0 0] 156)).drew):=(ze (ze (zof _ _))).drew;have b2:Hid (Below b.heap.size b ((b.alloc (.cells #[.slice none 0 0,.slice none 0 0,.slice none 0 0,.slice none 0 0,.slice none 0 0,.slice none 0 0,.slice none 0 0,.slice none 0 0] 156)).alloc (.cells #[.int .u64 18446744073709551615] 75)).drew):=(ze (ze (zof _ _))).drew;have c4:Hid (∀t,Below ((b.alloc (.cells #[.int .u64 18446744073709551615] 75)).alloc (.cells #[.slice none 0 0,.slice none 0 0,.slice none 0 0,.slice none 0 0,.slice none 0 0,.slice none 0 0,.slice none 0 0,.slice none 0 0] 156)).drew.heap.size ((b.alloc (.cells #[.int .u64 18446744073709551615] 75)).alloc (.cells #[.slice none 0 0,.slice none 0 0,.slice none 0 0,.slice none 0 0,.slice none 0 0,.slice none 0 0,.slice none 0 0,.slice none 0 0] 156)).drew t->∀i,i<8->t.cell? ⟨b.heap.size+1,i,none⟩=some (.slice none 0 0)/\t.frozen? ⟨b.heap.size+1,i,none⟩=false):=fun t hb i hi=>
   ⟨za (c1.out i hi) hb,(hb.frozen (p:=⟨b.heap.size+1,i,none⟩) (by simp)).trans (zoB _ _ _ _ (by simp))⟩
  have a3:Hid (∀t,Below ((b.alloc (.cells #[.slice none 0 0,.slice none 0 0,.slice none 0 0,.slice none 0 0,.slice none 0 0,.slice none 0 0,.slice none 0 0,.slice none 0 0] 156)).alloc (.cells #[.int .u64 18446744073709551615] 75)).drew.heap.size ((b.alloc (.cells #[.slice none 0 0,.slice none 0 0,.slice none 0 0,.slice none 0 0,.slice none 0 0,.slice none 0 0,.slice none 0 0,.slice none 0 0] 156)).alloc (.cells #[.int .u64 18446744073709551615] 75)).drew t->∀i,i<8->t.cell? ⟨b.heap.size,i,none⟩=some (.slice none 0 0)/\t.frozen? ⟨b.heap.size,i,none⟩=false):=fun t hb i hi=>
   ⟨za (c2.out i hi) hb,(hb.frozen (p:=⟨b.heap.size,i,none⟩) (by simp;omega)).trans ((World.frozen?_alloc_past _ _ _ (by simp)).trans (zoB _ _ _ _ rfl))⟩
  clear hc en hm f6 d5 e7 e8 e0 d7;go_upto_region 4 with fail
  rw[<-L.out,<-N.out];obtain⟨z0,z1,z2,z3,z4,z5,z6⟩:=o.out.cs;have g4:s<b.heap.size:=zog _ _ z0;have d1:s≠b.heap.size:=by omega
  have b6:Hid (b.drew.cell? ⟨s,0,none⟩=some (.slice d.heads.a d.heads.n d.heads.c)/\b.drew.cell? ⟨s,1,none⟩=some (.slice d.mta.a d.mta.n d.mta.c)/\b.drew.cell? ⟨s,2,none⟩=some (.slice d.states.a d.states.n d.states.c)/\b.drew.cell? ⟨s,3,none⟩=some (.slice d.acts.a d.acts.n d.acts.c)/\b.drew.cell? ⟨s,4,none⟩=some (.slice d.tabs.a d.tabs.n d.tabs.c)/\b.drew.cell? ⟨s,5,none⟩=some (.slice d.nodes.a d.nodes.n d.nodes.c)/\b.drew.cell? ⟨s,6,none⟩=some (.slice d.out.a d.out.n d.out.c)):=⟨z0,z1,z2,z3,z4,z5,z6⟩;have P:s≠b.heap.size+1:=by omega
  go_cut [6]from 18 to 25 (fun v6 t=>∃v g,v6=.pointer (some ⟨v,0,none⟩)/\Hid (zjc d b m v g t))
  case first=>
   go_region_held3 (fun w'=>w'.cell? ⟨s,0,none⟩=some (.slice d.heads.a d.heads.n d.heads.c)/\w'.cell? ⟨s,1,none⟩=some (.slice d.mta.a d.mta.n d.mta.c)/\w'.cell? ⟨s,2,none⟩=some (.slice d.states.a d.states.n d.states.c)/\w'.cell? ⟨s,3,none⟩=some (.slice d.acts.a d.acts.n d.acts.c)/\w'.cell? ⟨s,4,none⟩=some (.slice d.tabs.a d.tabs.n d.tabs.c)/\w'.cell? ⟨s,5,none⟩=some (.slice d.nodes.a d.nodes.n d.nodes.c)/\w'.cell? ⟨s,6,none⟩=some (.slice d.out.a d.out.n d.out.c))
    (first
     |with_reducible exact I
     |with_reducible exact zjd P I (za0 d g m v t)
     |with_reducible exact zjd d1 I (za0 d g m v t)
     |with_reducible exact b6.out
     |with_reducible exact kW I (ze (zof _ _))
     |(go_split_ands;with_reducible exact kW ⟨by assumption,by assumption,by assumption,by assumption,by assumption,by assumption,by assumption⟩ (ze (zof _ _))))
    (first
     |(go_at_call 67;(with_reducible refine b5.out.mono ?_);rintro e t ⟨g,rfl,R,Q,r⟩;have I:=kW ⟨z0,z1,z2,z3,z4,z5,z6⟩ (zh X.out r))
     |(go_at_call 67;(with_reducible refine b1.out.mono ?_);rintro e t ⟨g,rfl,R,Q,r⟩;have I:=kW ⟨z0,z1,z2,z3,z4,z5,z6⟩ (zh a5.out r);have l:=c4.out t r;have q0:=(l 0 (by decide)).1;have r0:=(l 0 (by decide)).2;have q1:=(l 1 (by decide)).1;have r1:=(l 1 (by decide)).2;have q2:=(l 2 (by decide)).1;have r2:=(l 2 (by decide)).2;have q3:=(l 3 (by decide)).1;have r3:=(l 3 (by decide)).2;have q4:=(l 4 (by decide)).1;have r4:=(l 4 (by decide)).2;have q5:=(l 5 (by decide)).1;have r5:=(l 5 (by decide)).2;have q6:=(l 6 (by decide)).1;have r6:=(l 6 (by decide)).2;have q7:=(l 7 (by decide)).1;have r7:=(l 7 (by decide)).2;clear l c9 d4 z0 z1 z2 z3 z4 z5 z6 y0 y1 b5 b1 a9 c4 a3 c2 X b2 W a6 o B HL L N b6 HM EN e5 c6 E V;obtain⟨v,hv⟩:∃v,v=b.heap.size+1:=⟨_,rfl⟩;rw[<-hv]at q0 r0 q1 r1 q2 r2 q3 r3 q4 r4 q5 r5 q6 r6 q7 r7 P;rw[<-hv];have EV:=hid hv;clear hv)
     |(go_at_call 67;(with_reducible refine a9.out.mono ?_);rintro e t ⟨g,rfl,R,Q,r⟩;have I:=kW ⟨z0,z1,z2,z3,z4,z5,z6⟩ (zh b2.out r);have l:=a3.out t r;have q0:=(l 0 (by decide)).1;have r0:=(l 0 (by decide)).2;have q1:=(l 1 (by decide)).1;have r1:=(l 1 (by decide)).2;have q2:=(l 2 (by decide)).1;have r2:=(l 2 (by decide)).2;have q3:=(l 3 (by decide)).1;have r3:=(l 3 (by decide)).2;have q4:=(l 4 (by decide)).1;have r4:=(l 4 (by decide)).2;have q5:=(l 5 (by decide)).1;have r5:=(l 5 (by decide)).2;have q6:=(l 6 (by decide)).1;have r6:=(l 6 (by decide)).2;have q7:=(l 7 (by decide)).1;have r7:=(l 7 (by decide)).2;clear l c9 d4 z0 z1 z2 z3 z4 z5 z6 y0 y1 b5 b1 a9 c4 a3 c1 X a5 W a6 o B HL L N b6 HM EN e5 c6 E V;obtain⟨v,hv⟩:∃v,v=b.heap.size:=⟨_,rfl⟩;rw[<-hv]at q0 r0 q1 r1 q2 r2 q3 r3 q4 r4 q5 r5 q6 r6 q7 r7 d1;rw[<-hv];have EV:=hid hv;clear hv))
   ·go_wp2_with fail
    go_meet
    exact⟨_,g,rfl,flA d X.out r R Q⟩
   ·go_wp2_with fail
    go_meet
    exact⟨v,g,rfl,by show zjc d b m v g _;rw[EV.out];exact flB d a5.out (by simp) (by omega) r R Q c1.out⟩
   ·go_wp2_with fail
    go_meet
    exact⟨v,g,rfl,by show zjc d b m v g _;rw[EV.out];exact flB d b2.out (by simp;omega) (zos _) r R Q c2.out⟩
  case rest=>
   obtain⟨v,g,rfl,T⟩:=hcut;clear b5 b1 a9 c1 c2 X a5 b2 c4 a3 b6 d1 P z0 z1 z2 z3 z4 z5 z6 y0 y1 L N c9 d4;have d5:(APp d.p HC.out d.p.ss.length).length=d.p.ss.length+1:=(jS HC.out (zos _)).1;obtain⟨S,hS⟩:∃S,S=(APp d.p HC.out d.p.ss.length).getD d.p.ss.length Wk.zero:=⟨_,rfl⟩;have b8:(APp d.p HC.out d.p.ss.length)[d.p.ss.length]?=some S:=by
    rw[hS,zoi,zoh (by omega)];rfl
   have Y:S.must<2^64:=xm (zei HC.out (zos _) S (zol b8)).1;obtain⟨t0,t1,t2,t3,t4⟩:=(W.out _ S b8).step T.out.bl;obtain⟨k,hk⟩:∃k,k=d.p.ss.length:=⟨_,rfl⟩;rw[<-hk]at t0 t1 t2 t3 t4;have g6:(sn:Int)-1=(k:Int):=by have:=a6.out;omega
   have g8:IntKind.i64.wrap (k:Int)=(k:Int):=zX _ (by omega) (by have:(d.p.ss.length:Int)<=8:=(zB HC.out 2 (by decide)).2.1;omega)
   have g7:(k:Int)<(sn:Int):=by omega
   have g3:(0:Int)<=(k:Int):=by omega
   have f4:=T.out.ne;have d9:sg<b.heap.size:=zog _ _ (W.out _ S b8).c0;have Z:Hid (xo d.p HC.out=if S.there=true then S.must else zF):=by show xo d.p HC.out=_;unfold xo;rw[<-hS]
   obtain⟨st,hst⟩:∃st,st=xo d.p HC.out:=⟨_,rfl⟩;have d8:Hid (st<2^64):=by rw[hst];exact zdg HC.out
   have K:=hid hst;have e1:m=d.p.ns.length+1:=by have:=HM.out;have:=EN.out;omega
   have c3:=hid e1;have a1:Hid (w.heap.size<=g):=zoz B.out.size T.out.gl;have f7:Hid (w.heap.size<=v):=zoz B.out.size T.out.vl;have g2:s≠g:=by have:=T.out.gl;omega
   have J:g≠f:=by have:=o.out.fl;have:=T.out.gl;omega
   clear hS b8 d5 hk hst e1;obtain⟨W4,hW4⟩:∃W4,W4=wc.alloc (.cells #[.int .u64 (S.must:Int),.int .u64 (S.may:Int),.int .i64 (S.least:Int),.int .i64 (S.most:Int),.bool S.there] 157):=⟨_,rfl⟩;obtain⟨u,hu⟩:∃u,u=wc.heap.size:=⟨_,rfl⟩;have b4:Below wc.heap.size wc W4:=by rw[hW4];exact ze (zof _ _)
   have u0:W4.cell? ⟨u,0,none⟩=some (.int .u64 (S.must:Int)):=by rw[hW4,hu];exact(zod _ _ _ _ rfl).trans rfl
   have u4:W4.cell? ⟨u,4,none⟩=some (.bool S.there):=by rw[hW4,hu];exact(zod _ _ _ _ rfl).trans rfl
   have a2:=hid (T.out.ah.step b4);have U:=hid (T.out.wk.step b4);have a7:=hid (o.out.step (zh T.out.bl b4));have D:=hid (zh B.out (zh T.out.bl b4));have G:=hid hW4;have EU:=hid hu;clear hW4 hu b4;cases hT:S.there
   case' true=>
    rw[hT]at u4 t4;have H:Hid (st=S.must):=by show st=_;rw[K.out,Z.out,if_pos hT]
    rw[hT]at G;have a8:=hid (zbw d 0 S.must zF a2.out (m:=m) (by omega) (by rw[List.getElem?_replicate,if_pos (by omega)]) Y kj)
    rw[zco c3.out Y,<-H.out]at a8;obtain⟨x0,x1,x2,x3,x4,x5,x6,x7⟩:=U.out.all;unfold zb5 at a8;clear hT Z;go_upto_region 7 with fail
    rw[<-G.out,<-EU.out];clear G EU;rw[<-H.out]at u0;go_wp2_with fail
    refine a8.out.mono ?_;rintro e O ⟨rfl,e3,b9⟩;have d6:=hid e3;have f3:=hid (U.out.but b9 f4);have d3:Hid (Below w.heap.size w O):=D.out.trans (b9.low.mono a1.out);have q:Hid (WlkAt d w O s f):=a7.out.but b9 g2 (Ne.symm J);clear e3 b9 a8 x0 x1 x2 x3 x4 x5 x6 x7 U a2 a7 D u0 u4 Y
   case' false=>
    rw[hT]at u4 t4;have H:Hid (st=zF):=by show st=_;rw[K.out,Z.out,if_neg (by rw[hT];decide)]
    rw[hT]at G;obtain⟨O,hW5⟩:∃O,O=W4:=⟨_,rfl⟩;have d6:Hid (AhU g (xG d.p st 0) O):=by
     have:=a2.out;rw[zes c3.out,<-H.out]at this;rw[hW5];exact this
    rw[<-hW5]at G u0 u4;have f3:Hid (WkF d g m v O):=by rw[hW5];exact U.out
    have d3:Hid (Below w.heap.size w O):=by rw[hW5];exact D.out
    have q:Hid (WlkAt d w O s f):=by rw[hW5];exact a7.out
    clear hW5 hT Z;go_upto_region 8 with fail
    rw[<-G.out,<-EU.out];clear G EU U a2 a7 D Y u0
   all_goals
    have b0:Hid (∀wr,But g O wr->wr.cell? ⟨f,0,none⟩=some (.int .i64 0)/\wr.cell? ⟨f,1,none⟩=some (.int .i64 0)/\wr.frozen? ⟨f,0,none⟩=false/\wr.frozen? ⟨f,1,none⟩=false):=fun wr h=>⟨h.cell (Ne.symm J) q.out.f0,h.cell (Ne.symm J) q.out.f1,(h.frozen (Ne.symm J) q.out.fl).trans (q.out.fz 0),(h.frozen (Ne.symm J) q.out.fl).trans (q.out.fz 1)⟩
    have b7:Hid (∀wr x y,But g O wr->Below w.heap.size w ((wr.setCell ⟨f,0,none⟩ x).setCell ⟨f,1,none⟩ y)):=fun wr x y h=>((d3.out.trans (h.low.mono a1.out)).setCell (p:=⟨f,0,none⟩) q.out.wf _).setCell (p:=⟨f,1,none⟩) q.out.wf _
    have c5:=q.out.cs.2.2.2.2.2.1;clear q o B T W a6 f7 d9 t0 t1 t2 t3 t4;go_wp2;go_loopw [41,8] (fun qv _ wr=>∃j:Nat,j<=d.nodes.n/\qv=.int .i64 j/\Hid (AhU g (xG d.p st j) wr)/\Hid (But g O wr)/\Hid (∀i,i<j->¬jD d.p st i)) (fun qv _ _=>d.nodes.n-(intOf qv).toNat)
    case atStart=>exact⟨0,zon _,rfl,d6,But.refl _ _,fun i hi=>absurd hi (zoN _)⟩
    case round=>
     obtain⟨j,hj,rfl,a0,F,M⟩:=hrel;clear d6;obtain⟨x0,x1,x2,x3,x4,x5,x6,x7⟩:=(f3.out.but F.out f4).all;obtain⟨f0,f1,g0,g1⟩:=b0.out wr F.out;by_cases e2:j<d.nodes.n
     ·have f8:(j:Int)<(d.nodes.n:Int):=by omega
      have f9:IntKind.i64.wrap (6000+(j:Int))=6000+(j:Int):=zX _ (by omega) (by omega)
      have HG:=hid (zhz d st j (m:=m) HL.out (d3.out.trans (F.out.low.mono a1.out)) a1.out HC.out d8.out a0.out c3.out e2);unfold zb5 at HG;clear a0;go_wp2_with fail
      refine HG.out.mono ?_;rintro e w4 ⟨ok,rfl,f5,a4,d0⟩;have D:=hid (F.out.trans f5);clear x0 x1 x2 x3 x4 x5 x6 x7 f0 f1 g0 g1 HG f5;cases ok with
      |true=>
       have RA:=hid (a4 rfl).2;have RP:Hid (∀i,i<j+1->¬jD d.p st i):=fun i hi=>by
        by_cases e:i=j
        ·subst e;exact(a4 rfl).1
        ·exact M.out i (by omega)
       clear a4 d0 M F f9;go_wp2;go_roundw
       case rel=>exact⟨j+1,by omega,by go_num,RA,D,RP⟩
       case measure=>simp[intOf];omega
      |false=>
       have HE:Hid (kF d.p w (.returned (.tuple #[.slice none 0 0,.agg #[.int .i64 12,.int .i64 (6000+(j:Int))]])) ((w4.setCell ⟨f,0,none⟩ (.int .i64 12)).setCell ⟨f,1,none⟩ (.int .i64 (6000+(j:Int))))):=by
        refine⟨12,6000+(j:Int),none,0,0,rfl,.inr ⟨HC.out,HI.out,.inl ⟨j,by rw[EN.out];exact e2,?_,?_,rfl,rfl⟩⟩,fun _=>⟨rfl,rfl,rfl⟩,fun _ h=>absurd h (by decide),b7.out _ _ _ D.out⟩
        ·rw[<-K.out];exact d0 rfl
        ·rw[<-K.out];exact M.out
       obtain⟨f0,f1,g0,g1⟩:=b0.out w4 D.out;clear a4 d0 M F b7 b0;go_wp2;exact bodyPost_ret (v:=.tuple #[.slice none 0 0,.agg #[.int .i64 12,.int .i64 (6000+(j:Int))]]) (by simp[results,Tryz.results34,go_sem, *]) rfl HE.out
     ·have ej:j=d.nodes.n:=by omega
      have f8:¬(j:Int)<(d.nodes.n:Int):=by omega
      have HE:Hid (kF d.p w (.returned (.tuple #[.slice (some ⟨g,0,none⟩) m m,.agg #[.int .i64 0,.int .i64 0]])) ((wr.setCell ⟨f,0,none⟩ (.int .i64 0)).setCell ⟨f,1,none⟩ (.int .i64 0))):=by
       refine⟨0,0,_,m,m,rfl,.inr ⟨HC.out,HI.out,.inr ⟨fun i hi=>?_,rfl,rfl⟩⟩,fun h=>absurd rfl h,fun h _=>?_,b7.out _ _ _ F.out⟩
       ·rw[<-K.out];exact M.out i (by rw[EN.out]at hi;omega)
       ·have k1:But f wr ((wr.setCell ⟨f,0,none⟩ (.int .i64 0)).setCell ⟨f,1,none⟩ (.int .i64 0)):=set_but.trans set_but;have ha:=a0.out.but k1 J;rw[ej,<-EN.out]at ha;have:=zlf ha (m:=m) (by rw[jW];exact c3.out.symm) (zew d8.out)
        rw[zhy HC.out d8.out]at this;rw[<-K.out];exact this
      clear a0 F M b0 b7 ej;go_wp2;exact bodyPost_ret (v:=.tuple #[.slice (some ⟨g,0,none⟩) m m,.agg #[.int .i64 0,.int .i64 0]]) (by simp[results,Tryz.results34,go_sem, *]) rfl HE.out
 ·have g5:(C !=0)=true:=by rw[bne_iff_ne];exact hC
  have HE:Hid (∀w',Below b.heap.size b w'->kF d.p w (.returned (.tuple #[.slice none 0 0,.agg #[.int .i64 C,.int .i64 A]])) ((w'.setCell ⟨f,0,none⟩ (.int .i64 C)).setCell ⟨f,1,none⟩ (.int .i64 A))):=fun w' h=>
   ⟨C,A,none,0,0,rfl,.inl ⟨HI.out,hC⟩,fun _=>⟨rfl,rfl,rfl⟩,fun _ h0=>absurd h0 hC,((zh B.out h).setCell (p:=⟨f,0,none⟩) o.out.wf _).setCell (p:=⟨f,1,none⟩) o.out.wf _⟩
  have f0:=o.out.f0;have f1:=o.out.f1;have g0:=o.out.fz 0;have g1:=o.out.fz 1;clear HI e0 d7 hC B o;go_wp2_with fail
  rw[<-L.out,<-N.out];clear L N;go_region
  all_goals
   go_wp2;exact bodyPost_ret (v:=.tuple #[.slice none 0 0,.agg #[.int .i64 C,.int .i64 A]]) (by simp[results,Tryz.results34,go_sem, *]) rfl (HE.out _ (zof _ _).drew)
theorem zhk{w:World}{a:Nat}{z:Int}(h:w.cell? ⟨a,0,none⟩=some (.int .i64 z))(c:(Lit.int .i64 z).wf=true):Has .i64 w (some ⟨a,0,none⟩) 1 [z]:=by
 refine⟨rfl,?_,.inr ⟨a,0,rfl,zog w _ h,fun i hi=>?_⟩⟩
 ·intro n b;simp only[zoD,zoA,or_false]at b;subst b;exact c
 ·have:i=0:=by omega
  subst this;simpa using h
end Go.Proofs.YtdajaaondlekfaaGreat
