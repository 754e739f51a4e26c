import Derived.Test.YtdajaaondlekfaaGreatG10
import Derived.Test.YtdajaaondlekfaaGreatG1
import Derived.Test.YtdajaaondlekfaaGreatG6
import Derived.Test.YtdajaaondlekfaaGreatG16
import Derived.Test.YtdajaaondlekfaaGreatG5
import Derived.Test.YtdajaaondlekfaaGreatG7
import Derived.Test.YtdajaaondlekfaaGreatG8
import Derived.Test.YtdajaaondlekfaaGreatVQRules2
import Derived.Deep.OwnRows
set_option maxHeartbeats 16000000
set_option maxRecDepth 20000
set_option linter.unusedSimpArgs false
namespace Go.Proofs.YtdajaaondlekfaaGreat
open Go.RowKit
def zkl(L:List Int)(x i:Int):Prop:=(i= -1/\x ∉ L)\/(∃k:Nat,i=k/\L[k]?=some x)
theorem zie(a:Option Addr)(n c:Nat)(L:List Int)(x:Int)(w:World)(J:n<=100000)(r:Has .i64 w a n L):
 Calls Tryz.prog 205 #[.slice a n c,.int .i64 x] w fun e w'=>∃i,e=.returned (.int .i64 i)/\zkl L x i/\w'=w:=by
 have d:=r.1;have B:=hid r;have C:=hid d;obtain⟨A,ee⟩:∃A,a=A:=⟨_,rfl⟩;clear r d;go_enter Tryz.func205,Tryz.ntmps205
 go_wp2;go_loop [8,5] (fun q _=>∃k:Nat,k<=n/\q=.int .i64 k/\Hid (∀j:Nat,j<k->L[j]?≠some x)) (fun q _=>n-(intOf q).toNat)
 case atStart=>exact⟨0,zon _,rfl,fun j u=>absurd u (by omega)⟩
 case round=>
  obtain⟨k,I,rfl,l⟩:=hrel;by_cases o:k<n
  ·obtain⟨g,off,y,f,m,r0⟩:=zaL (s:=⟨a,n,c⟩) B.out o;dsimp only at f;subst f;have G:(k:Int)<(n:Int):=by omega
   by_cases b:x=y
   ·subst b;have t:Hid (zkl L x k):=.inr ⟨k,rfl,m⟩;clear l m ee;go_wp2;go_ret;exact⟨k,rfl,t.out,rfl⟩
   ·have H:(x==y)=false:=by simpa using b
    have D:Hid (∀j:Nat,j<k+1->L[j]?≠some x):=fun j u=>by
     by_cases E:j=k
     ·subst E;rw[m];intro h;exact b (zoq h).symm
     ·exact l.out j (by omega)
    clear l m b ee;go_wp2;go_round
    case rel=>exact⟨k+1,by omega,by go_num,D⟩
    case measure=>simp[intOf];omega
  ·have F:k=n:=by omega
   have t:Hid (zkl L x (-1)):=.inl ⟨rfl,fun h=>by
    obtain⟨i,hi⟩:=List.getElem?_of_mem h;have:=(zok.1 hi).1;exact l.out i (by rw[C.out]at this;omega) hi⟩
   clear l ee;subst F;go_wp2;go_ret;exact⟨-1,rfl,t.out,rfl⟩
theorem zbm(a:Option Addr)(n c:Nat)(L:List Int)(x:Int)(w:World)(f:n<=100000)(d:Has .i64 w a n L):
 Calls Tryz.prog 180 #[.slice a n c,.int .i64 x] w fun e w'=>e=.returned (.bool (decide (x∈L)))/\w'=w:=by
 have HC:=hid (zie a n c L x w f d);clear d;go_enter Tryz.func180,Tryz.ntmps180
 go_wp2_with fail
 refine HC.out.mono ?_;rintro e h ⟨i,rfl,hi,rfl⟩;rcases hi with⟨rfl,b⟩|⟨k,rfl,b⟩
 ·have HD:=hid (zoX b);clear HC b;go_wp2;go_ret;exact⟨by rw[HD.out];rfl,rfl⟩
 ·have HD:=hid (zoY (zol b));have g:decide ((0:Int)<=(k:Int))=true:=zoY (by omega)
  clear HC b;go_wp2;go_ret;exact⟨by rw[HD.out];rfl,rfl⟩
theorem zeU{w:World}{a:Option Addr}{n k:Nat}{L:List Int}(h:Has .i64 w a n L)(f:k<=n):Has .i64 w a k (L.take k):=by
 refine⟨by rw[List.length_take,h.1];omega,fun x c=>h.2.1 x (List.mem_of_mem_take c),?_⟩
 by_cases h0:k=0
 ·subst h0;exact .inl (by simp)
 ·obtain⟨g,off,e,b,d⟩:=h.some (by omega)
  refine .inr ⟨g,off,e,b,fun i hi=>?_⟩
  rw[d i (by omega)]
  simp only[zoi,List.getElem?_take,if_pos hi]
theorem zlN(d:PlanD)(w:World)(A:d.lie w)(Q:d.out.n<=100000)(k:Nat)(M:k<d.out.n):
 Calls Tryz.prog 143 #[d.v,.int .i64 k] w fun e w'=>e=.returned (.int .i64 (zf4 d.p k))/\Below w.heap.size w w':=by
 obtain⟨g,off,x,O,L,c0⟩:=zaL A.os M;have B:d.p.hs.length=d.heads.n:=by simp[PlanD.p,A.hs.1]
 have G:d.p.os.getD k 0=x:=by simp only[PlanD.p,zoi,L,zoC]
 have f:Hid (zf4 d.p k=if 0<=x/\x<(d.heads.n:Int)then(if x∈d.os.take k then 7 else 0)else 1):=by
  show zf4 d.p k=_;unfold zf4;rw[G,B];rfl
 have s:Hid (∀w',Calls Tryz.prog 170 #[.slice d.heads.a d.heads.n d.heads.c,.int .i64 x] w' fun e m=>e=.returned (.bool (decide (0<=x/\x<(d.heads.n:Int))))/\m=w'):=fun w'=>zbN _ _ _ _ w'
 have i:Hid (∀w',Below w.heap.size w w'->Calls Tryz.prog 180 #[.slice (some ⟨g,off,none⟩) k d.out.c,.int .i64 x] w' fun e m=>e=.returned (.bool (decide (x∈d.os.take k)))/\m=w'):=fun w' h=>zbm _ k _ _ x w' (by omega) (by rw[<-O];exact zeU (A.os.step h) (by omega))
 obtain⟨D,hW⟩:∃D,D=w.alloc (.cells #[.slice d.heads.a d.heads.n d.heads.c,.slice d.mta.a d.mta.n d.mta.c,.slice d.states.a d.states.n d.states.c,.slice d.acts.a d.acts.n d.acts.c,.slice d.tabs.a d.tabs.n d.tabs.c,.slice d.nodes.a d.nodes.n d.nodes.c,.slice (some ⟨g,off,none⟩) d.out.n d.out.c] 228):=⟨_,rfl⟩;obtain⟨b0,h0⟩:∃b0,b0=w.heap.size:=⟨_,rfl⟩;have z0:D.cell? ⟨b0,0,none⟩=some (.slice d.heads.a d.heads.n d.heads.c):=by rw[hW,h0];exact(zod _ _ _ _ rfl).trans rfl
 have I:D.cell? ⟨b0,6,none⟩=some (.slice (some ⟨g,off,none⟩) d.out.n d.out.c):=by rw[hW,h0];exact(zod _ _ _ _ rfl).trans rfl
 have u:Hid (Below w.heap.size w D):=by rw[hW];exact ze (zof _ _)
 have c1:=za c0 u.out;have F:=zm z0;have C:=zm I;have E:=zm c1;have J:=hid hW;have H:=hid h0;have P:(k:Int)<(d.out.n:Int):=by omega
 have N:(k:Int)<=(d.out.n:Int):=by omega
 have K:(d.out.n:Int)<=(d.out.c:Int):=by have:=A.oc;omega
 clear hW h0 A L c0 B G;by_cases t:0<=x/\x<(d.heads.n:Int)
 ·rw[if_pos t]at f;rw[zoY t]at s;clear t;go_enter Tryz.func143,Tryz.ntmps143
  go_wp2_with fail
  rw[<-J.out,<-H.out];clear J H;haveI inhB:∀w:World,Inhabited (zq w):=fun w=>⟨⟨w,zof _ _⟩⟩
  refine zi (by kernel_rfl) (by kernel_rfl) ?_
  repeat (go_big_quiet_step (first|(go_at_call 170;exact zt _ (s.out _))))
  refine wpQuiet_nil ?_;intro wq l;obtain⟨⟨_,j⟩,b⟩:=l;subst b;have o:=hid (zh u.out j);have z0:=za z0 j;have I:=za I j;have c1:=za c1 j;clear F C E j u;have F:=zm z0;have C:=zm I;have E:=zm c1;have i:Hid (∀p:zq wq,Calls Tryz.prog 180 #[.slice (some ⟨g,off,none⟩) k d.out.c,.int .i64 x] p.to fun e m=>e=.returned (.bool (decide (x∈d.os.take k)))/\m=p.to):=fun p=>i.out p.to (zh o.out p.h)
  by_cases r:x∈d.os.take k
  ·rw[if_pos r]at f;rw[zoY r]at i;clear r s;go_wp2_with fail
   haveI inhB:∀w:World,Inhabited (zq w):=fun w=>⟨⟨w,zof _ _⟩⟩
   refine zi (by kernel_rfl) (by kernel_rfl) ?_
   repeat (go_big_quiet_step (first|(go_at_call 180;exact zt _ (i.out _))))
   refine wpQuiet_nil ?_;intro wr l;obtain⟨⟨_,q⟩,b⟩:=l;subst b;have y:=hid (zh o.out q);clear o q i;go_wp2;go_ret;exact⟨by rw[f.out];rfl,y.out⟩
  ·rw[if_neg r]at f;rw[zoX r]at i;clear r s;go_wp2_with fail
   haveI inhB:∀w:World,Inhabited (zq w):=fun w=>⟨⟨w,zof _ _⟩⟩
   refine zi (by kernel_rfl) (by kernel_rfl) ?_
   repeat (go_big_quiet_step (first|(go_at_call 180;exact zt _ (i.out _))))
   refine wpQuiet_nil ?_;intro wr l;obtain⟨⟨_,q⟩,b⟩:=l;subst b;have y:=hid (zh o.out q);clear o q i;go_wp2;go_ret;exact⟨by rw[f.out];rfl,y.out⟩
 ·rw[if_neg t]at f;rw[zoX t]at s;clear t i;go_enter Tryz.func143,Tryz.ntmps143
  go_wp2_with fail
  rw[<-J.out,<-H.out];clear J H;haveI inhB:∀w:World,Inhabited (zq w):=fun w=>⟨⟨w,zof _ _⟩⟩
  refine zi (by kernel_rfl) (by kernel_rfl) ?_
  repeat (go_big_quiet_step (first|(go_at_call 170;exact zt _ (s.out _))))
  refine wpQuiet_nil ?_;intro wq l;obtain⟨⟨_,j⟩,b⟩:=l;subst b;have y:=hid (zh u.out j);clear u j;go_wp2;go_ret;exact⟨by rw[f.out];rfl,y.out⟩
structure PlanD.small (d : PlanD) : Prop where
 an : d.acts.n <= 10000
 aw : ∀ x ∈ d.al, x.w.n <= 10000
 ts : ∀ t ∈ d.ts, t.keys.n <= 10000 /\ t.acts.n <= 10000 /\ t.args.n <= 10000
 on : d.out.n <= 10000
def zcR(p:PPlan)(t:PTab):Int:=if 3<t.ks.length then 2 else if(0:Int)∈t.ks.map (fun r=>p.width r [])then 1 else zJ t (t.ks.map (fun r=>p.width r [])) p.al
theorem ze7{d:PlanD}{w:World}(a:d.lie w)(ks:List RefD):yw d ks=ks.map (fun r=>d.p.width r []):=by
 unfold yw;apply List.map_congr_left
 intro r _;unfold zdb;exact qD a r []
theorem ziq(d:PlanD)(w:World)(I:d.lie w)(hs:d.small)(k:Nat)(X:k<d.tabs.n)(x:TabD)(Q:d.ts[k]?=some x):
 Calls Tryz.prog 141 #[d.v,.int .i64 k] w fun e w'=>e=.returned (.int .i64 (zcR d.p x.p))/\Below w.heap.size w w':=by
 have i:∀o,Below w.heap.size w (w.alloc o):=fun o=>ze (zof _ _)
 have C:∀o T,Below w.heap.size w ((w.alloc o).alloc T):=fun o T=>ze (ze (zof _ _))
 obtain⟨g,off,x',ea,F,⟨c0,_⟩,⟨c1,_⟩,⟨c2,_⟩,⟨c3,A⟩,⟨c4,_⟩,⟨c5,_⟩,q,has,J⟩:=zu I.ts X;obtain rfl:x=x':=by rw[Q]at F;exact zoq F
 obtain⟨S,R,Z⟩:=hs.ts x (zol Q);have l:Hid (∀w',Below w.heap.size w w'->Calls Tryz.prog 179 #[d.v,x.v] w' (xt w' (x.ks.map (fun r=>d.p.width r [])))):=fun w' h=>by
  rw[<-ze7 I];exact zgd d x w' (I.step h) (q.step RefD.keeps h) S
 generalize O:x.ks.map (fun r=>d.p.width r [])=L at*
 have N:L.length=x.keys.n:=by rw[<-O,zoE,q.1]
 have m:Hid (∀w' a c,Has .i64 w' a L.length L->Calls Tryz.prog 180 #[.slice a L.length c,.int .i64 0] w' fun e D=>e=.returned (.bool (decide ((0:Int)∈L)))/\D=w'):=fun w' a c h=>zbm a _ c L 0 w' (by omega) h
 have j:Hid (∀w' a c,Below w.heap.size w w'->(a=none->L.length=0/\c=0)->Has .i64 w' a L.length L->Calls Tryz.prog 181 #[x.v',.slice a L.length c,.slice d.acts.a d.acts.n d.acts.c] w' fun e D=>e=.returned (.int .i64 (zJ x.p L d.p.al))/\Below w'.heap.size w' D):=fun w' a c h hn M=>
  zeN x ⟨a,L.length,c⟩ L d.acts d.al w' M hn (by show L.length<=100000;omega) A (has.step h) R (J.step h) (by omega) (I.al.step ActD.keeps h) (by have:=hs.an;omega) (fun y hy=>by have:=hs.aw y hy;omega)
 have b:Hid (zcR d.p x.p=if 3<x.keys.n then 2 else if(0:Int)∈L then 1 else zJ x.p L d.p.al):=by
  show zcR d.p x.p=_;unfold zcR;rw[show x.p.ks.length=x.keys.n from q.1,<-O]
  rfl
 have a0:(k:Int)<(d.tabs.n:Int):=by omega
 have k0:∀o,(w.alloc o).cell? ⟨g,off+k*6,none⟩=some (.int .i64 x.kind):=fun o=>za c0 (i o)
 have k1:∀o,(w.alloc o).cell? ⟨g,off+k*6+1,none⟩=some (.slice x.keys.a x.keys.n x.keys.c):=fun o=>za c1 (i o)
 have k2:∀o,(w.alloc o).cell? ⟨g,off+k*6+2,none⟩=some (.slice x.acts.a x.acts.n x.acts.c):=fun o=>za c2 (i o)
 have W:∀o,(w.alloc o).cell? ⟨g,off+k*6+3,none⟩=some (.int .i64 x.cap):=fun o=>za c3 (i o)
 have k4:∀o,(w.alloc o).cell? ⟨g,off+k*6+4,none⟩=some (.int .i64 x.dflt):=fun o=>za c4 (i o)
 have U:∀o,(w.alloc o).cell? ⟨g,off+k*6+5,none⟩=some (.slice x.args.a x.args.n x.args.c):=fun o=>za c5 (i o)
 unfold PlanD.v at l;rw[ea]at l;clear I hs Q F c0 c1 c2 c3 c4 c5 q has J i S R Z O N A;by_cases K:(3:Int)<(x.keys.n:Int)
 ·have V:=zoY K;rw[if_pos (by omega)]at b
  clear l m j K;go_enter Tryz.func141,Tryz.ntmps141
  go_wp2;go_ret;exact⟨by rw[b.out];rfl,C _ _⟩
 have V:=zoX K;rw[if_neg (by omega)]at b
 clear K;have E:=hid C;clear C;go_enter Tryz.func141,Tryz.ntmps141
 go_wp2_with fail
 refine(l.out _ (E.out _ _)).mono ?_;rintro e s ⟨a,c,rfl,B,M,f⟩;have t:=hid (zh (E.out _ _) f);have P:=hid M;have u:=hid B;have y3:s.cell? ⟨w.heap.size,3,none⟩=some (.slice d.acts.a d.acts.n d.acts.c):=za ((zoe _ _ _ (by simp)).trans ((zod _ _ _ _ rfl).trans rfl)) f
 have z0:s.cell? ⟨w.heap.size+1,0,none⟩=some (.int .i64 x.kind):=za ((zod _ _ _ _ (by simp)).trans rfl) f
 have z1:s.cell? ⟨w.heap.size+1,1,none⟩=some (.slice x.keys.a x.keys.n x.keys.c):=za ((zod _ _ _ _ (by simp)).trans rfl) f
 have z2:s.cell? ⟨w.heap.size+1,2,none⟩=some (.slice x.acts.a x.acts.n x.acts.c):=za ((zod _ _ _ _ (by simp)).trans rfl) f
 have z3:s.cell? ⟨w.heap.size+1,3,none⟩=some (.int .i64 x.cap):=za ((zod _ _ _ _ (by simp)).trans rfl) f
 have z4:s.cell? ⟨w.heap.size+1,4,none⟩=some (.int .i64 x.dflt):=za ((zod _ _ _ _ (by simp)).trans rfl) f
 have z5:s.cell? ⟨w.heap.size+1,5,none⟩=some (.slice x.args.a x.args.n x.args.c):=za ((zod _ _ _ _ (by simp)).trans rfl) f
 have m:=hid (m.out s a c P.out);have j:=hid (j.out s a c t.out u.out P.out);clear l M f B E k0 k1 k2 W k4 U u P;go_wp2_with fail
 refine m.out.mono ?_;rintro e w2 ⟨rfl,rfl⟩;clear m;by_cases G:(0:Int)∈L
 ·rw[if_pos G]at b;rw[zoY G];clear j G;go_wp2;go_ret;exact⟨by rw[b.out];rfl,t.out⟩
 ·rw[if_neg G]at b;rw[zoX G];clear G;go_wp2_with fail
  refine j.out.mono ?_;rintro e w3 ⟨rfl,H⟩;have Y:=hid (zh t.out H);clear j H t;go_wp2;go_ret;exact⟨by rw[b.out];rfl,Y.out⟩
def zao{α :Type}(cells: α->List Value)(k:Nat)(T:TypeId)(S:List α)(n:Nat)(w:World)(e:Ending)(w':World):Prop:=
 ∃a c,e=.returned (.slice a n c)/\w'.ownsRow w.heap.size T k (.slice a n c) n (S.flatMap cells)/\Below w.heap.size w w'
theorem zcc{α :Type}{cells: α->List Value}{k:Nat}{P: α->World->Nat->Nat->Prop}(H:∀x,(cells x).length=k)(N:0<k)(L:∀x,∀u∈cells x,u.oneCell'=true)(I:∀{x: α} {w:World} {g o:Nat},P x w g o->∀r u,(cells x)[r]?=some u->w.cell? ⟨g,o+r,none⟩=some u)(y:jw P)
 {w:World} {T q:TypeId} {z:Value} {bs:Nat} (ty:TypeId) (M:Tryz.prog.underlying q=some (.slice T)) (b:(Tryz.prog.info? T).map (fun i=>(i.zero,i.size,i.bytes))=some (some z,k,bs)) (E:z.cells.size=k) (A:bs<=1000)
 {ad:Addr} {n c:Nat} {S:List α} (hr:QRow k P w ⟨some ad,n,c⟩ S) (F:n<=100000):
 ∃a s w',(Builtin.append_ #[q,q] ty #[.slice (some ⟨w.heap.size,0,none⟩) 0 0,.slice (some ad) n c]).run Tryz.prog (w.alloc (.cells #[] T))=.ok (.slice a n s) w'/\w'.ownsRow w.heap.size T k (.slice a n s) n (S.flatMap cells)/\Below w.heap.size w w':=by
 obtain⟨O,hi,B,C,t⟩:=info_parts b;have h:(S.flatMap cells).length=n*k:=by rw[zdY H,hr.1]
 have m:Below w.heap.size w (w.alloc (.cells #[] T)):=ze (zof _ _);have l:∀j u,(S.flatMap cells)[j]?=some u->(w.alloc (.cells #[] T)).cell? (ad.add j)=some u:=by
  intro j u D;obtain⟨i,r,x,q1,q2,rfl⟩:=zjv H D;obtain⟨g,off,e,J⟩:=(hr.step y m).2 i x q1;obtain rfl:=zoq e;rw[Addr.add_lit,<-Nat.add_assoc];exact I J r u q2
 have d:∀u∈S.flatMap cells,u.oneCell'=true:=fun u D=>by
  obtain⟨x,_,R⟩:=List.mem_flatMap.1 D;exact L x u R
 have G:n*bs<=100000*1000:=Nat.mul_le_mul F A;obtain⟨v',w',f,r1,Q,-⟩:=run_append_own (P:=Tryz.prog) (w.alloc (.cells #[] T)) w.heap.size q ty T O z k bs M hi B C t E N (.slice (some ⟨w.heap.size,0,none⟩) 0 0) 0 [] (World.ownsRow_made w #[] 0 (zos _) (zon _) (by simp)) ad n c (S.flatMap cells) h l d (by unfold maxLen;omega) (by rw[zoK];omega) m.size
 rw[zoK,List.nil_append]at r1;obtain⟨a,s,e⟩:∃a c,v'=.slice a n c:=by
  rcases r1.2 with⟨e,V⟩|⟨g,c,U,e,_⟩
  ·exact⟨none,0,by rw[e,V]⟩
  ·exact⟨_,c,e⟩
 subst e;refine⟨a,s,w',f,r1,m.grown Q m.size ?_⟩;intro j K;simp[Value.ownBlock]at K;omega
theorem zdQ{s:QSl}{S:List ShapeD}{w:World}(hr:QRow 3 ShapeD.lie w s S)(g:s.nil0)(e:s.n<=100000):Calls Tryz.prog 47 #[.slice s.a s.n s.c] w (zao yK 3 41 S s.n w):=by
 obtain⟨sa,sn,sc⟩:=s;cases sa with
 |none=>
  obtain⟨l,j⟩:=g rfl;dsimp only at l j ⊢;subst l;subst j;have:S=[]:=zoG hr.1;subst this;have d:=fun w=>Lib.run_eql_slice_nil (P:=Tryz.prog) w 37 41 none 0 0 0 0 Tryz.underlying37
  clear g hr;go_enter Tryz.func47,Tryz.ntmps47
  go_wp2;go_ret;exact⟨none,0,rfl,zoH _ _ _ _,zof _ _⟩
 |some ad=>
  have d:=fun w=>Lib.run_eql_slice_nil (P:=Tryz.prog) w 37 41 (some ad) sn sc 0 0 Tryz.underlying37
  obtain⟨a,f,w',b,i,hb⟩:=zcc (cells:=yK) (k:=3) (P:=ShapeD.lie) (fun _=>rfl) (by decide) zcw (fun h=>h.cells) ShapeD.keeps 37 Tryz.underlying37 Tryz.ginfoShape rfl (by decide) hr e
  have m:Hid (zao yK 3 41 S sn w (.returned (.slice a sn f)) w'):=⟨a,f,rfl,i,hb⟩;clear g hr e i hb;dsimp only;go_enter Tryz.func47,Tryz.ntmps47
  go_wp2_with (at_builtin;refine jj rfl _ _ rfl rfl rfl b ?_)
  exact bodyPost_ret (v:=.slice a sn f) (by simp[results,Tryz.results47,go_sem]) rfl m.out
theorem zfz{s:QSl}{S:List InsD}{w:World}(hr:QRow 6 InsD.lie w s S)(g:s.nil0)(e:s.n<=100000):Calls Tryz.prog 48 #[.slice s.a s.n s.c] w (zao yL 6 126 S s.n w):=by
 obtain⟨sa,sn,sc⟩:=s;cases sa with
 |none=>
  obtain⟨l,j⟩:=g rfl;dsimp only at l j ⊢;subst l;subst j;have:S=[]:=zoG hr.1;subst this;have d:=fun w=>Lib.run_eql_slice_nil (P:=Tryz.prog) w 42 126 none 0 0 0 0 Tryz.underlying42
  clear g hr;go_enter Tryz.func48,Tryz.ntmps48
  go_wp2;go_ret;exact⟨none,0,rfl,zoH _ _ _ _,zof _ _⟩
 |some ad=>
  have d:=fun w=>Lib.run_eql_slice_nil (P:=Tryz.prog) w 42 126 (some ad) sn sc 0 0 Tryz.underlying42
  obtain⟨a,f,w',b,i,hb⟩:=zcc (cells:=yL) (k:=6) (P:=InsD.lie) (fun _=>rfl) (by decide) zeD (fun h=>h.cells) InsD.keeps 42 Tryz.underlying42 Tryz.ginfoIns rfl (by decide) hr e
  have m:Hid (zao yL 6 126 S sn w (.returned (.slice a sn f)) w'):=⟨a,f,rfl,i,hb⟩;clear g hr e i hb;dsimp only;go_enter Tryz.func48,Tryz.ntmps48
  go_wp2_with (at_builtin;refine jj rfl _ _ rfl rfl rfl b ?_)
  exact bodyPost_ret (v:=.slice a sn f) (by simp[results,Tryz.results48,go_sem]) rfl m.out
theorem ziU{B:Nat}{d:LabD}{w:World}(h:LabAt 132 B d w)(i:Nat)(hi:i<=100000)(F:d.cs.length<=100000)(l:Int):Calls Tryz.prog 50 #[zcf d.p,.int .i64 i,.int .i64 l] w fun e w'=>e=.returned (.tuple #[.int .i64 (toN d.ms i l).1,.int .i64 (toN d.ms i l).2])/\w'=w:=by
 obtain⟨c0,c1,z0,z1,L⟩:=h.lbox;have f:=hid (zng h l);by_cases h0:l<0\/(d.ms.length:Int)<=l
 ·have e:toN d.ms i l=(0,9):=by
   unfold toN;rw[if_pos (by omega)]
  have k:zay d.ms l=false:=by
   unfold zay;rcases h0 with h0|h0
   ·rw[zoX (by omega:¬0<=l),Bool.false_and]
   ·rw[zoX (by omega:¬l<(d.ms.length:Int)),Bool.and_false]
  rw[e];rw[k]at f;clear k h e h0;go_enter Tryz.func50,Tryz.ntmps50
  go_wp2_with fail
  refine f.out.mono ?_;rintro e o ⟨rfl,rfl⟩;go_wp2;exact bodyPost_ret (v:=.tuple #[.int .i64 0,.int .i64 9]) (by simp[results,Tryz.results50,go_sem]) rfl ⟨rfl,rfl⟩
 obtain⟨n,rfl⟩:∃n:Nat,l=(n:Int):=⟨l.toNat,by omega⟩
 have x:n<d.ms.length:=by omega
 obtain⟨g,j,I,fz,gl⟩:=zi3 h x;have r:(0:Int)<=(n:Int):=by omega
 have q:(n:Int)<(d.ms.length:Int):=by omega
 have s:((n:Int)).toNat=n:=by omega
 have c: -1<=d.ms.getD n 0/\d.ms.getD n 0<=(d.cs.length:Int):=by
  rw[zoi,zoh x,zoC];exact h.wm _ (List.getElem_mem _)
 have k:zay d.ms (n:Int)=true:=by unfold zay;rw[zoY r,zoY q,Bool.and_self]
 rw[k]at f;clear k;have t:toN d.ms i (n:Int)=if d.ms.getD n 0= -1 then(0,9)else if d.ms.getD n 0<=(i:Int)then(0,11)else(d.ms.getD n 0-i-1,0):=by
  unfold toN;rw[s];by_cases b:d.ms.getD n 0= -1
  ·rw[if_pos (.inr (.inr b)),if_pos b]
  ·rw[if_neg (by omega),if_neg b]
 rw[t];clear t;generalize d.ms.getD n 0=mm at*;rw[j]at c1;have K:=hid j;by_cases b:mm= -1
 ·rw[if_pos b];subst b;clear h h0 j c;go_enter Tryz.func50,Tryz.ntmps50
  go_wp2_with fail
  refine f.out.mono ?_;rintro e o ⟨rfl,rfl⟩;go_wp2;exact bodyPost_ret (v:=.tuple #[.int .i64 0,.int .i64 9]) (by simp[results,Tryz.results50,go_sem]) rfl ⟨rfl,rfl⟩
 rw[if_neg b];have E:(mm== -1)=false:=by simpa using b
 by_cases m:mm<=(i:Int)
 ·rw[if_pos m];clear h h0 j c b;go_enter Tryz.func50,Tryz.ntmps50
  go_wp2_with fail
  refine f.out.mono ?_;rintro e o ⟨rfl,rfl⟩;go_wp2;exact bodyPost_ret (v:=.tuple #[.int .i64 0,.int .i64 11]) (by simp[results,Tryz.results50,go_sem]) rfl ⟨rfl,rfl⟩
 ·rw[if_neg m];obtain⟨a,rfl⟩:∃a:Nat,mm=((a+i+1:Nat):Int):=⟨(mm-i-1).toNat,by omega⟩
  have y:((a+i+1:Nat):Int)-(i:Int)-1=(a:Int):=by omega
  rw[y];generalize C:((a+i+1:Nat):Int)=u at*;have o:IntKind.i64.wrap (u-(i:Int))=(a:Int)+1:=by rw[zX _ (by omega) (by omega)];omega
  have J:IntKind.i64.wrap ((a:Int)+1-1)=(a:Int):=by rw[zX _ (by omega) (by omega)];omega
  have A:wrap64 (a:Int)=(a:Int):=by unfold wrap64;omega
  have D:=hid A;have H:=hid C;have G:=hid c;clear A;clear h h0 j c b C y;go_enter Tryz.func50,Tryz.ntmps50
  go_wp2_with fail
  refine f.out.mono ?_;rintro e o ⟨rfl,rfl⟩;go_wp2;exact bodyPost_ret (v:=.tuple #[.int .i64 a,.int .i64 0]) (by simp[results,Tryz.results50,go_sem];exact D.out) rfl ⟨rfl,rfl⟩
theorem zm5{W:World}{b:Nat}{k:VMK}{m:VMD}{w:World}(h:VMAt W b k m w)(Q:k.pk.n<=600)(x:InsD)(hr:0<=x.r/\x.r<10)(hs:0<=x.s/\x.s<10)(hn:0<=x.n):
 Calls Tryz.prog 56 #[kQ b,x.v] w (zw (qF k m x) w):=by
 obtain⟨op,r,s,K,H,n⟩:=x;dsimp only at hr hs hn;obtain⟨r,rfl⟩:∃i:Nat,r=i:=⟨r.toNat,by omega⟩
 obtain⟨s,rfl⟩:∃i:Nat,s=i:=⟨s.toNat,by omega⟩
 obtain⟨n,rfl⟩:∃i:Nat,n=i:=⟨n.toNat,by omega⟩
 obtain⟨o,hW1⟩:∃o,o=w.alloc (.cells #[.int .i64 op,.int .i64 (r:Int),.int .i64 (s:Int),.int .i64 K,.int .i64 H,.int .u64 (n:Int)] 126):=⟨_,rfl⟩;obtain⟨ib,hib⟩:∃b,b=w.heap.size:=⟨_,rfl⟩;have F:Below w.heap.size w o:=by rw[hW1];exact ze (zof _ _)
 have S:IBox ⟨op,r,s,K,H,n⟩ o ib:=by rw[hW1,hib];exact ji ⟨op,r,s,K,H,n⟩ w
 obtain⟨O,M,N,T,U,P⟩:=S;dsimp only at O M N T U P;have E:=h.step F;have R:ib<o.heap.size:=zog _ _ O;have u:Hid (∀p:zq o,Calls Tryz.prog 94 #[kQ b,.int .i64 (r:Int)] p.to fun e f=>e=.returned (.int .u64 (m.rn r:Int))/\f=p.to):=fun p=>zgk (E.step p.h) (by omega)
 have A:Hid (∀p:zq o,Calls Tryz.prog 94 #[kQ b,.int .i64 (s:Int)] p.to fun e f=>e=.returned (.int .u64 (m.rn s:Int))/\f=p.to):=fun p=>zgk (E.step p.h) (by omega)
 have C:Hid (∀p:zq o,Calls Tryz.prog 96 #[kQ b,.int .u64 (m.rn r:Int),.int .u64 (n:Int)] p.to fun e f=>e=.returned (.bool (jy k.pk.n (m.rn r) n))/\f=p.to):=fun p=>zkK (E.step p.h) Q _ _ (h.ok.1 r)
 have t:=hid F;have q:=hid hW1;have l:=hid hib;have I:=zm M;have L:=zm N;have J:=zm P;dsimp only[InsD.v];unfold qF;dsimp only;rw[zov,zov,zov];clear h E F hW1 hib;haveI inhB:∀w:World,Inhabited (zq w):=fun w=>⟨⟨w,zof _ _⟩⟩
 generalize jy k.pk.n (m.rn r) n=V at*;generalize m.rn r=X at*;generalize m.rn s=Y at*;by_cases y:op=9
 ·subst y;rw[if_pos rfl];go_enter Tryz.func56,Tryz.ntmps56
  go_upto_region 1 with fail
  rw[<-q.out,<-l.out];clear q l;go_wp2_with fail
  refine zi (by kernel_rfl) (by kernel_rfl) ?_
  repeat (go_big_quiet_step (first|(go_at_call 94;with_reducible exact zt _ (u.out _))|(go_at_call 96;with_reducible exact zt _ (C.out _))))
  refine wpQuiet_nil ?_;intro wq g;obtain⟨⟨_,a⟩,c⟩:=g;subst c;have B:=hid (zh t.out a);clear t a C u A;go_wp2;go_ret;exact⟨rfl,B.out⟩
 rw[if_neg y];have d9:(op==9)=false:=beq_eq_false_iff_ne.2 y;by_cases d:op=10
 ·subst d;rw[if_pos rfl];clear y C;go_enter Tryz.func56,Tryz.ntmps56
  go_upto_region 1 with fail
  rw[<-q.out,<-l.out];clear q l;go_wp2_with fail
  refine zi (by kernel_rfl) (by kernel_rfl) ?_
  repeat (go_big_quiet_step (first|(go_at_call 94;with_reducible exact zt _ (u.out _))|(go_at_call 94;with_reducible exact zt _ (A.out _))))
  refine wpQuiet_nil ?_;intro wq g;obtain⟨⟨_,a⟩,c⟩:=g;subst c;have B:=hid (zh t.out a);clear t a u A;go_wp2;go_ret;exact⟨by simp,B.out⟩
 rw[if_neg d];have Z:(op==10)=false:=beq_eq_false_iff_ne.2 d;by_cases j:op=11
 ·subst j;rw[if_pos rfl];clear y d C;go_enter Tryz.func56,Tryz.ntmps56
  go_upto_region 1 with fail
  rw[<-q.out,<-l.out];clear q l;go_wp2_with fail
  refine zi (by kernel_rfl) (by kernel_rfl) ?_
  repeat (go_big_quiet_step (first|(go_at_call 94;with_reducible exact zt _ (u.out _))|(go_at_call 94;with_reducible exact zt _ (A.out _))))
  refine wpQuiet_nil ?_;intro wq g;obtain⟨⟨_,a⟩,c⟩:=g;subst c;have B:=hid (zh t.out a);clear t a u A;go_wp2;go_ret;refine⟨?_,B.out⟩;by_cases D:X=Y
  ·simp[D]
  ·have G:¬(X:Int)=(Y:Int):=by omega
   simp[D,G]
 rw[if_neg j];have a0:(op==11)=false:=beq_eq_false_iff_ne.2 j;have HO:Hid ((op==12)=decide (op=12)):=by by_cases h:op=12<;>simp[h,Hid]
 clear C u A I L J y d j;go_enter Tryz.func56,Tryz.ntmps56
 go_upto_region 1 with fail
 rw[<-q.out,<-l.out];clear q l;go_wp2;go_ret;refine⟨?_,t.out⟩;by_cases h:op=12<;>simp[h]
def ResV(port:Int)(out:List Int)(v:Value)(w:World):Prop:=∃a c,v=.agg #[.int .i64 port,.slice a out.length c]/\Has .u8 w a out.length out/\(a=none->out=[]/\c=0)/\out.length<=c
theorem zm7(n:Nat)(a:n<18446744073709551616):bits .and .u64 (n:Int) 65535=((n%65536:Nat):Int):=by
 have:=u64_and_nat n 65535 a (by decide)
 rw[show((65535:Nat):Int)=65535 from rfl]at this
 rw[this];congr 1
 exact Nat.and_two_pow_sub_one_eq_mod n 16
theorem VMAt.step_drew{W:World}{b:Nat}{k:VMK}{m:VMD}{w:World}(h:VMAt W b k m w):VMAt W b k m w.drew:=h.step (zof _ _).drew
theorem zl0{w:World}{B:Nat}{v:Value}{out:List Int}(h:w.ownsRow B 5 1 v out.length (BB out))(hb:zdZ out):∃a c,v=.slice a out.length c/\Has .u8 w a out.length out/\(a=none->out=[]/\c=0)/\out.length<=c:=by
 obtain⟨a,c,rfl,f⟩:=zaW h (zcy hb);refine⟨a,c,rfl,f,?_,?_⟩
 ·rintro rfl;rcases h.2 with⟨e,d⟩|⟨g,cap,b,e,_⟩
  ·simp only[zox]at e;exact⟨zoG d,e.2.2⟩
  ·simp at e
 ·rcases h.2 with⟨e,d⟩|⟨g,cap,b,e,_,_,i,_⟩
  ·omega
  ·simp only[zox]at e;omega
theorem zl1{W:World}{b:Nat}{k:VMK}{m:VMD}{w:World}(h:VMAt W b k m w)(x:InsD)(hr:0<=x.r/\x.r<10)(A:x.op=16\/x.op=17):
 Calls Tryz.prog 55 #[kQ b,x.v] w fun e w'=>∃v,e=.returned v/\ResV (if x.op=17 then -1 else((m.rn x.r.toNat%65536:Nat):Int)) (if x.op=17 then[]else m.out) v w'/\Below w.heap.size w w':=by
 obtain⟨op,r,s,E,C,n⟩:=x;dsimp only at hr A;obtain⟨r,rfl⟩:∃i:Nat,r=i:=⟨r.toNat,by omega⟩
 dsimp only;rw[zov];dsimp only[InsD.v];rcases A with rfl|rfl
 ·rw[if_neg (by decide),if_neg (by decide)]
  obtain⟨d,hW1⟩:∃d,d=(w.alloc (.cells #[.int .i64 16,.int .i64 (r:Int),.int .i64 s,.int .i64 E,.int .i64 C,.int .u64 n] 126)).alloc (.cells #[.int .i64 0,.slice none 0 0] 50):=⟨_,rfl⟩;obtain⟨ib,hib⟩:∃b,b=w.heap.size:=⟨_,rfl⟩;obtain⟨rb,hrb⟩:∃b,b=w.heap.size+1:=⟨_,rfl⟩;have u:Below w.heap.size w d:=by rw[hW1];exact ze (ze (zof _ _))
  have I:IBox ⟨16,r,s,E,C,n⟩ d ib:=by rw[hW1,hib];exact(ji ⟨16,r,s,E,C,n⟩ w).step (ze (zof _ _))
  have Z:d.cell? ⟨rb,0,none⟩=some (.int .i64 0):=by rw[hW1,hrb];simp
  have k1:d.cell? ⟨rb,1,none⟩=some (.slice none 0 0):=by rw[hW1,hrb];simp
  have f0:d.frozen? ⟨rb,0,none⟩=false:=by rw[hW1,hrb];simp
  have f1:d.frozen? ⟨rb,1,none⟩=false:=by rw[hW1,hrb];simp
  have P:=(h.step u).lt;have a0:ib≠rb:=by omega
  have K:b≠rb:=by have:=h.lt;omega
  obtain⟨v,hv,f⟩:=(h.step u).ow;obtain⟨a,c,rfl,D,o,l⟩:=zl0 f h.byt;have F:=hid (zgk (h.step u).step_drew (r:=r) (by omega))
  have R:ib<d.heap.size:=zog _ _ I.c0;have M:rb<d.heap.size:=zog _ _ Z;have H:=zm7 (m.rn r) (h.ok.1 r);have S:=xE (((m.rn r%65536:Nat)):Int) (by omega) (by omega)
  have t:w.heap.size<=rb:=by omega
  have HD:Hid (∃v,Ending.returned (.agg #[.int .i64 ((m.rn r%65536:Nat):Int),.slice a m.out.length c])=.returned v/\ResV ((m.rn r%65536:Nat):Int) m.out v ((d.setCell ⟨rb,0,none⟩ (.int .i64 ((m.rn r%65536:Nat):Int))).setCell ⟨rb,1,none⟩ (.slice a m.out.length c)).drew/\Below w.heap.size w ((d.setCell ⟨rb,0,none⟩ (.int .i64 ((m.rn r%65536:Nat):Int))).setCell ⟨rb,1,none⟩ (.slice a m.out.length c)).drew):=by
   have q:Has .u8 ((d.setCell ⟨rb,0,none⟩ (.int .i64 ((m.rn r%65536:Nat):Int))).setCell ⟨rb,1,none⟩ (.slice a m.out.length c)) a m.out.length m.out:=by
    refine⟨D.1,D.2.1,?_⟩;rcases D.2.2 with e|⟨g,off,e,N,B⟩
    ·exact .inl e
    ·refine .inr ⟨g,off,e,by simp only[zow];exact N,fun i hi=>?_⟩
     have y:g≠rb:=fun er=>by
      have h0:=B 0 (by omega)
      rw[er]at h0;have:d.heap[rb]?=some (.cells #[.int .i64 0,.slice none 0 0] 50 (0,0)):=by
       rw[hW1,hrb];have:=heap_alloc_new (w.alloc (.cells #[.int .i64 16,.int .i64 (r:Int),.int .i64 s,.int .i64 E,.int .i64 C,.int .u64 n] 126)) (.cells #[.int .i64 0,.slice none 0 0] 50);simpa using this
      simp only[World.cell?,this]at h0;match hq:off+0 with
      |0=>rw[hq]at h0;simp at h0
      |1=>rw[hq]at h0;simp at h0
      |j+2=>rw[hq]at h0;simp at h0
     rw[World.cell?_setCell_far _ _ _ _ (by show rb≠g;exact fun e=>y e.symm),World.cell?_setCell_far _ _ _ _ (by show rb≠g;exact fun e=>y e.symm)]
     exact B i hi
   exact⟨_,rfl,⟨a,c,rfl,q.step (zof _ _).drew,o,l⟩,((u.setCell (p:=⟨rb,0,none⟩) t _).setCell (p:=⟨rb,1,none⟩) t _).drew⟩
  generalize V:(m.rn r%65536:Nat)=X at*;generalize Q:m.rn r=Y at*;obtain⟨i0,O,U,T,i4,i5⟩:=I;dsimp only at i0 O;have L:=hid hW1;have J:=hid hib;have G:=hid hrb;generalize m.out.length=OL at*;clear V Q h f D o l hW1 hib hrb U T i4 i5 u t;go_enter Tryz.func55,Tryz.ntmps55
  go_upto_region 1 with fail
  rw[<-L.out,<-G.out,<-J.out];clear L J G;go_wp2_with fail
  go_region_with (go_at_call 94;refine F.out.mono ?_;rintro e wx ⟨rfl,rfl⟩)
  all_goals
   go_wp2;exact bodyPost_ret (v:=.agg #[.int .i64 (X:Int),.slice a OL c]) (by simp[results,Tryz.results55,go_sem, *]) rfl HD.out
 ·rw[if_pos rfl,if_pos rfl];go_enter Tryz.func55,Tryz.ntmps55
  go_wp2;exact bodyPost_ret (v:=.agg #[.int .i64 (-1),.slice none 0 0]) (by simp[results,Tryz.results55,go_sem, *]) rfl ⟨_,rfl,⟨none,0,rfl,zW _ _,fun _=>⟨rfl,rfl⟩,zos _⟩,ze (ze (zof _ _))⟩
theorem zbH{w:World}{cs:List Value}{T:TypeId}:∀j u,cs[j]?=some u->(w.alloc (.cells cs.toArray T)).cell? ((⟨w.heap.size,0,none⟩:Addr).add j)=some u:=by
 intro j u h;rw[Addr.add_lit,zoK,zod _ _ _ _ rfl];simpa using h
structure Turn (wr w5 w7 : World) (po g : Nat) (row : Option Nat) (F : Nat -> Prop) : Prop where
 hb : Below wr.heap.size wr w5
 os : w7.os = w5.os
 tape : w7.tape = w5.tape
 output : w7.output = w5.output
 size : w5.heap.size <= w7.heap.size
 blk : ∀ k, k < w5.heap.size -> k ≠ po -> some k ≠ row -> w7.heap[k]? = w5.heap[k]?
 fpo : F po
 frow : ∀ b, row = some b -> F b
 flt : ∀ k, F k -> k < wr.heap.size
 new : row = some g \/ w5.heap.size <= g
abbrev zae(F:Nat->Prop)(g:Nat):Nat->Prop:=fun b=>F b\/b=g
theorem Turn.mask{wr f b:World}{po g:Nat}{row:Option Nat}{F:Nat->Prop}(h:Turn wr f b po g row F):Below (mask F (fun _=>Classical.propDecidable _) wr).heap.size (mask F (fun _=>Classical.propDecidable _) wr) (mask (zae F g) (fun _=>Classical.propDecidable _) b):=by
 refine yT (h.os.trans h.hb.os) (h.tape.trans h.hb.tape) (h.output.trans h.hb.output) (zoz h.hb.size h.size) (fun _ h=>.inl h) fun k d hF=>?_
 have i:=h.hb.size;refine⟨fun a=>?_,?_⟩
 ·rcases a with a|rfl
  ·exact hF a
  ·rcases h.new with c|c
   ·exact hF (h.frow _ c)
   ·omega
 ·rw[h.blk k (by omega) (fun e=>hF (e▸h.fpo)) (fun e=>hF (h.frow k e.symm)),h.hb.block k d]
theorem Turn.fresh{wr a c W:World}{po g:Nat}{row:Option Nat}{F:Nat->Prop}(h:Turn wr a c po g row F)(n:wr.heap.size<=W.heap.size){α :Type}(K:Kd α){x: α}(hi:K.inn x (Go.Proofs.YtdajaaondlekfaaGreat.mask (old W) (fun _=>Classical.propDecidable _) a)):K.inn x (Go.Proofs.YtdajaaondlekfaaGreat.mask (zae F g) (fun _=>Classical.propDecidable _) c):=by
 have l:Below (Go.Proofs.YtdajaaondlekfaaGreat.mask (old W) (fun _=>Classical.propDecidable _) a).heap.size (Go.Proofs.YtdajaaondlekfaaGreat.mask (old W) (fun _=>Classical.propDecidable _) a) (Go.Proofs.YtdajaaondlekfaaGreat.mask (zae (old W) g) (fun _=>Classical.propDecidable _) c):=by
  refine yT h.os h.tape h.output h.size (fun _ h=>.inl h) fun k j hF=>?_
  have i:¬k<W.heap.size:=hF;have m:=h.flt _ h.fpo;refine⟨fun d=>?_,h.blk k j (by omega) (fun e=>by have:=h.flt _ (h.frow k e.symm);omega)⟩
  rcases d with d|rfl
  ·exact hF d
  ·rcases h.new with f|f
   ·have:=h.flt _ (h.frow _ f);omega
   ·omega
 refine K.cov (K.step hi l) (jt _ fun b hb=>?_)
 rcases hb with hb|hb
 ·exact .inl (by have:=h.flt _ hb;show b<W.heap.size;omega)
 ·exact .inr hb
theorem yi{wr f g:World}{B n i k m po j:Nat}{T e:TypeId}{v v' u:Value}{xs c:List Value}(h:wr.ownsRow B T k v n xs)(l:wr.ownsRow B e m v' i c)(q:T≠e)(hb:Below wr.heap.size wr f)(o:f.grownBy g v'.ownBlock)(r:po<B):(g.setCell ⟨po,j,none⟩ u).ownsRow B T k v n xs:=by
 have d:=ya h hb;have b:=ya l hb;exact ownsRow_setCell_below (d.kept o (zbP d b q)) (a:=⟨po,j,none⟩) r u
structure OutAt (w W2 : World) (po : Nat) (F : Nat -> Prop) (X : PlanD) (wr : World) : Prop where
 c0 : wr.cell? ⟨po, 0, none⟩ = some (.slice X.heads.a X.heads.n X.heads.c)
 c1 : wr.cell? ⟨po, 1, none⟩ = some (.slice X.mta.a X.mta.n X.mta.c)
 c2 : wr.cell? ⟨po, 2, none⟩ = some (.slice X.states.a X.states.n X.states.c)
 c3 : wr.cell? ⟨po, 3, none⟩ = some (.slice X.acts.a X.acts.n X.acts.c)
 c4 : wr.cell? ⟨po, 4, none⟩ = some (.slice X.tabs.a X.tabs.n X.tabs.c)
 c5 : wr.cell? ⟨po, 5, none⟩ = some (.slice X.nodes.a X.nodes.n X.nodes.c)
 c6 : wr.cell? ⟨po, 6, none⟩ = some (.slice X.out.a X.out.n X.out.c)
 fz : ∀ i, wr.frozen? ⟨po, i, none⟩ = false
 ph : w.heap.size + 2 <= po
 pl : po < wr.heap.size
 own0 : wr.ownsRow (po + 1) 55 kHead.k (.slice X.heads.a X.heads.n X.heads.c) X.heads.n (X.hs.flatMap kHead.cells)
 inn0 : ∀ x ∈ X.hs, kHead.inn x (mask F (fun _ => Classical.propDecidable _) wr)
 blk0 : ∀ b, (Value.slice X.heads.a X.heads.n X.heads.c).ownBlock = some b -> F b
 own2 : wr.ownsRow (po + 1) 60 kState.k (.slice X.states.a X.states.n X.states.c) X.states.n (X.ss.flatMap kState.cells)
 inn2 : ∀ x ∈ X.ss, kState.inn x (mask F (fun _ => Classical.propDecidable _) wr)
 blk2 : ∀ b, (Value.slice X.states.a X.states.n X.states.c).ownBlock = some b -> F b
 own3 : wr.ownsRow (po + 1) 63 kAct.k (.slice X.acts.a X.acts.n X.acts.c) X.acts.n (X.al.flatMap kAct.cells)
 inn3 : ∀ x ∈ X.al, kAct.inn x (mask F (fun _ => Classical.propDecidable _) wr)
 blk3 : ∀ b, (Value.slice X.acts.a X.acts.n X.acts.c).ownBlock = some b -> F b
 own4 : wr.ownsRow (po + 1) 69 kTab.k (.slice X.tabs.a X.tabs.n X.tabs.c) X.tabs.n (X.ts.flatMap kTab.cells)
 inn4 : ∀ x ∈ X.ts, kTab.inn x (mask F (fun _ => Classical.propDecidable _) wr)
 blk4 : ∀ b, (Value.slice X.tabs.a X.tabs.n X.tabs.c).ownBlock = some b -> F b
 own5 : wr.ownsRow (po + 1) 71 kNode.k (.slice X.nodes.a X.nodes.n X.nodes.c) X.nodes.n (X.ns.flatMap kNode.cells)
 inn5 : ∀ x ∈ X.ns, kNode.inn x (mask F (fun _ => Classical.propDecidable _) wr)
 blk5 : ∀ b, (Value.slice X.nodes.a X.nodes.n X.nodes.c).ownBlock = some b -> F b
 ms : QRow kInt.k kInt.lie (mask F (fun _ => Classical.propDecidable _) wr) X.mta X.ms
 ms0 : X.mta.nil0
 os : QRow kInt.k kInt.lie (mask F (fun _ => Classical.propDecidable _) wr) X.out X.os
 os0 : X.out.nil0
 oc : X.out.n <= X.out.c
 fpo : F po
 fold : ∀ b, b < w.heap.size + 2 -> F b
 flt : ∀ k, F k -> k < wr.heap.size
 bel : Below (w.heap.size + 2) W2 wr
theorem zbi{w m wr e f:World}{po g:Nat}{F:Nat->Prop}{X:PlanD}{v u:Value}{j:Nat}(h:OutAt w m po F X wr)(hb:Below wr.heap.size wr e)(d:e.grownBy f v.ownBlock)(c:∀b,v.ownBlock=some b->F b)(a:v.ownBlock=some g\/e.heap.size<=g):Turn wr e (f.setCell ⟨po,j,none⟩ u) po g v.ownBlock F:=
 ⟨hb,d.os,d.tape,d.output,by rw[zow];exact d.size,fun k i l h2=>(zop _ _ _ _ l).trans (d.block k i h2),h.fpo,c,h.flt,a⟩
theorem OutAt.push0{w D wr t q W:World}{po g d:Nat}{F:Nat->Prop}{X:PlanD}{x':HeadD}(h:OutAt w D po F X wr)(hb:Below wr.heap.size wr t)(I:wr.heap.size<=W.heap.size)(B:kHead.inn x' (mask (old W) (fun _=>Classical.propDecidable _) t))
 (C:q.ownsRow (po+1) 55 kHead.k (.slice (some ⟨g,0,none⟩) (X.heads.n+1) d) (X.heads.n+1) (X.hs.flatMap kHead.cells++kHead.cells x')) (i:t.grownBy q (Value.slice X.heads.a X.heads.n X.heads.c).ownBlock) (r:X.heads.a=some ⟨g,0,none⟩\/t.heap.size<=g):
 OutAt w D po (zae F g) {X with heads:=⟨some ⟨g,0,none⟩,X.heads.n+1,d⟩,hs:=X.hs++[x']} (q.setCell ⟨po,0,none⟩ (.slice (some ⟨g,0,none⟩) (X.heads.n+1) d)):=by
 have E:=zbi (g:=g) (u:=.slice (some ⟨g,0,none⟩) (X.heads.n+1) d) (j:=0) (v:=.slice X.heads.a X.heads.n X.heads.c) h hb i h.blk0 (r.elim (fun e=>.inl (by rw[e];rfl)) .inr)
 have l:=E.mask;have s:some po≠(Value.slice X.heads.a X.heads.n X.heads.c).ownBlock:=fun e=>by have:=(h.own0.lt po e.symm).1;omega
 have H:=h.pl;have cell:∀{o:Nat} {x:Value},wr.cell? ⟨po,o,none⟩=some x->q.cell? ⟨po,o,none⟩=some x:=fun f=>i.cell (za f hb) s
 have other:∀{o:Nat} {x:Value},o≠0->wr.cell? ⟨po,o,none⟩=some x->(q.setCell ⟨po,0,none⟩ (.slice (some ⟨g,0,none⟩) (X.heads.n+1) d)).cell? ⟨po,o,none⟩=some x:=fun A f=>(zou _ _ _ _ (fun e=>A (congrArg Addr.off e).symm)).trans (cell f)
 have J:=hb.size;have G:=i.size;have y:=(C.lt g rfl);exact{
  c0:=zot _ _ _ (cell h.c0)
  c1:=other (by decide) h.c1
  c2:=other (by decide) h.c2
  c3:=other (by decide) h.c3
  c4:=other (by decide) h.c4
  c5:=other (by decide) h.c5
  c6:=other (by decide) h.c6
  fz:=fun o=>by rw[World.frozen?_setCell,i.frozen_far ⟨po,o,none⟩ (by show po<_;omega) s,hb.frozen (p:=⟨po,o,none⟩) (by show po<_;omega)];exact h.fz o
  ph:=h.ph
  pl:=by rw[zow];omega
  own0:=by
   have:=ownsRow_setCell_below C (a:=⟨po,0,none⟩) (zoF _) (.slice (some ⟨g,0,none⟩) (X.heads.n+1) d);rw[show(X.hs++[x']).flatMap kHead.cells=X.hs.flatMap kHead.cells++kHead.cells x' by simp]
   exact this
  inn0:=fun x f=>by
   rcases List.mem_append.1 f with f|f
   ·exact kHead.step (h.inn0 x f) l
   ·simp only[zoD,zoA,or_false]at f;rw[f];exact E.fresh I kHead B
  blk0:=fun b hb=>.inr (zoq hb).symm
  own2:=yi h.own2 h.own0 (by decide) hb i (zoF _)
  inn2:=fun x f=>kState.step (h.inn2 x f) l
  blk2:=fun b hb=>.inl (h.blk2 b hb)
  own3:=yi h.own3 h.own0 (by decide) hb i (zoF _)
  inn3:=fun x f=>kAct.step (h.inn3 x f) l
  blk3:=fun b hb=>.inl (h.blk3 b hb)
  own4:=yi h.own4 h.own0 (by decide) hb i (zoF _)
  inn4:=fun x f=>kTab.step (h.inn4 x f) l
  blk4:=fun b hb=>.inl (h.blk4 b hb)
  own5:=yi h.own5 h.own0 (by decide) hb i (zoF _)
  inn5:=fun x f=>kNode.step (h.inn5 x f) l
  blk5:=fun b hb=>.inl (h.blk5 b hb)
  ms:=h.ms.step (Kd.keeps kInt) l
  ms0:=h.ms0
  os:=h.os.step (Kd.keeps kInt) l
  os0:=h.os0
  oc:=h.oc
  fpo:=.inl h.fpo
  fold:=fun b hb=>.inl (h.fold b hb)
  flt:=fun k m=>by
   rw[zow];rcases m with m|rfl
   ·have:=h.flt k m;omega
   ·exact y.2
  bel:=by
   have:=h.ph;refine zoV ?_ (by show w.heap.size+2<=po;omega) _
   refine(h.bel.trans (hb.mono (by omega))).grown i (by omega) fun k m=>?_
   have:=(h.own0.lt k m).1;omega}
theorem OutAt.push2{w D wr t q W:World}{po g d:Nat}{F:Nat->Prop}{X:PlanD}{x':StateD}(h:OutAt w D po F X wr)(hb:Below wr.heap.size wr t)(I:wr.heap.size<=W.heap.size)(B:kState.inn x' (mask (old W) (fun _=>Classical.propDecidable _) t))
 (C:q.ownsRow (po+1) 60 kState.k (.slice (some ⟨g,0,none⟩) (X.states.n+1) d) (X.states.n+1) (X.ss.flatMap kState.cells++kState.cells x')) (i:t.grownBy q (Value.slice X.states.a X.states.n X.states.c).ownBlock) (r:X.states.a=some ⟨g,0,none⟩\/t.heap.size<=g):
 OutAt w D po (zae F g) {X with states:=⟨some ⟨g,0,none⟩,X.states.n+1,d⟩,ss:=X.ss++[x']} (q.setCell ⟨po,2,none⟩ (.slice (some ⟨g,0,none⟩) (X.states.n+1) d)):=by
 have E:=zbi (g:=g) (u:=.slice (some ⟨g,0,none⟩) (X.states.n+1) d) (j:=2) (v:=.slice X.states.a X.states.n X.states.c) h hb i h.blk2 (r.elim (fun e=>.inl (by rw[e];rfl)) .inr)
 have l:=E.mask;have s:some po≠(Value.slice X.states.a X.states.n X.states.c).ownBlock:=fun e=>by have:=(h.own2.lt po e.symm).1;omega
 have H:=h.pl;have cell:∀{o:Nat} {x:Value},wr.cell? ⟨po,o,none⟩=some x->q.cell? ⟨po,o,none⟩=some x:=fun f=>i.cell (za f hb) s
 have other:∀{o:Nat} {x:Value},o≠2->wr.cell? ⟨po,o,none⟩=some x->(q.setCell ⟨po,2,none⟩ (.slice (some ⟨g,0,none⟩) (X.states.n+1) d)).cell? ⟨po,o,none⟩=some x:=fun A f=>(zou _ _ _ _ (fun e=>A (congrArg Addr.off e).symm)).trans (cell f)
 have J:=hb.size;have G:=i.size;have y:=(C.lt g rfl);exact{
  c0:=other (by decide) h.c0
  c1:=other (by decide) h.c1
  c2:=zot _ _ _ (cell h.c2)
  c3:=other (by decide) h.c3
  c4:=other (by decide) h.c4
  c5:=other (by decide) h.c5
  c6:=other (by decide) h.c6
  fz:=fun o=>by rw[World.frozen?_setCell,i.frozen_far ⟨po,o,none⟩ (by show po<_;omega) s,hb.frozen (p:=⟨po,o,none⟩) (by show po<_;omega)];exact h.fz o
  ph:=h.ph
  pl:=by rw[zow];omega
  own0:=yi h.own0 h.own2 (by decide) hb i (zoF _)
  inn0:=fun x f=>kHead.step (h.inn0 x f) l
  blk0:=fun b hb=>.inl (h.blk0 b hb)
  own2:=by
   have:=ownsRow_setCell_below C (a:=⟨po,2,none⟩) (zoF _) (.slice (some ⟨g,0,none⟩) (X.states.n+1) d);rw[show(X.ss++[x']).flatMap kState.cells=X.ss.flatMap kState.cells++kState.cells x' by simp]
   exact this
  inn2:=fun x f=>by
   rcases List.mem_append.1 f with f|f
   ·exact kState.step (h.inn2 x f) l
   ·simp only[zoD,zoA,or_false]at f;rw[f];exact E.fresh I kState B
  blk2:=fun b hb=>.inr (zoq hb).symm
  own3:=yi h.own3 h.own2 (by decide) hb i (zoF _)
  inn3:=fun x f=>kAct.step (h.inn3 x f) l
  blk3:=fun b hb=>.inl (h.blk3 b hb)
  own4:=yi h.own4 h.own2 (by decide) hb i (zoF _)
  inn4:=fun x f=>kTab.step (h.inn4 x f) l
  blk4:=fun b hb=>.inl (h.blk4 b hb)
  own5:=yi h.own5 h.own2 (by decide) hb i (zoF _)
  inn5:=fun x f=>kNode.step (h.inn5 x f) l
  blk5:=fun b hb=>.inl (h.blk5 b hb)
  ms:=h.ms.step (Kd.keeps kInt) l
  ms0:=h.ms0
  os:=h.os.step (Kd.keeps kInt) l
  os0:=h.os0
  oc:=h.oc
  fpo:=.inl h.fpo
  fold:=fun b hb=>.inl (h.fold b hb)
  flt:=fun k m=>by
   rw[zow];rcases m with m|rfl
   ·have:=h.flt k m;omega
   ·exact y.2
  bel:=by
   have:=h.ph;refine zoV ?_ (by show w.heap.size+2<=po;omega) _
   refine(h.bel.trans (hb.mono (by omega))).grown i (by omega) fun k m=>?_
   have:=(h.own2.lt k m).1;omega}
theorem OutAt.push3{w D wr t q W:World}{po g d:Nat}{F:Nat->Prop}{X:PlanD}{x':ActD}(h:OutAt w D po F X wr)(hb:Below wr.heap.size wr t)(I:wr.heap.size<=W.heap.size)(B:kAct.inn x' (mask (old W) (fun _=>Classical.propDecidable _) t))
 (C:q.ownsRow (po+1) 63 kAct.k (.slice (some ⟨g,0,none⟩) (X.acts.n+1) d) (X.acts.n+1) (X.al.flatMap kAct.cells++kAct.cells x')) (i:t.grownBy q (Value.slice X.acts.a X.acts.n X.acts.c).ownBlock) (r:X.acts.a=some ⟨g,0,none⟩\/t.heap.size<=g):
 OutAt w D po (zae F g) {X with acts:=⟨some ⟨g,0,none⟩,X.acts.n+1,d⟩,al:=X.al++[x']} (q.setCell ⟨po,3,none⟩ (.slice (some ⟨g,0,none⟩) (X.acts.n+1) d)):=by
 have E:=zbi (g:=g) (u:=.slice (some ⟨g,0,none⟩) (X.acts.n+1) d) (j:=3) (v:=.slice X.acts.a X.acts.n X.acts.c) h hb i h.blk3 (r.elim (fun e=>.inl (by rw[e];rfl)) .inr)
 have l:=E.mask;have s:some po≠(Value.slice X.acts.a X.acts.n X.acts.c).ownBlock:=fun e=>by have:=(h.own3.lt po e.symm).1;omega
 have H:=h.pl;have cell:∀{o:Nat} {x:Value},wr.cell? ⟨po,o,none⟩=some x->q.cell? ⟨po,o,none⟩=some x:=fun f=>i.cell (za f hb) s
 have other:∀{o:Nat} {x:Value},o≠3->wr.cell? ⟨po,o,none⟩=some x->(q.setCell ⟨po,3,none⟩ (.slice (some ⟨g,0,none⟩) (X.acts.n+1) d)).cell? ⟨po,o,none⟩=some x:=fun A f=>(zou _ _ _ _ (fun e=>A (congrArg Addr.off e).symm)).trans (cell f)
 have J:=hb.size;have G:=i.size;have y:=(C.lt g rfl);exact{
  c0:=other (by decide) h.c0
  c1:=other (by decide) h.c1
  c2:=other (by decide) h.c2
  c3:=zot _ _ _ (cell h.c3)
  c4:=other (by decide) h.c4
  c5:=other (by decide) h.c5
  c6:=other (by decide) h.c6
  fz:=fun o=>by rw[World.frozen?_setCell,i.frozen_far ⟨po,o,none⟩ (by show po<_;omega) s,hb.frozen (p:=⟨po,o,none⟩) (by show po<_;omega)];exact h.fz o
  ph:=h.ph
  pl:=by rw[zow];omega
  own0:=yi h.own0 h.own3 (by decide) hb i (zoF _)
  inn0:=fun x f=>kHead.step (h.inn0 x f) l
  blk0:=fun b hb=>.inl (h.blk0 b hb)
  own2:=yi h.own2 h.own3 (by decide) hb i (zoF _)
  inn2:=fun x f=>kState.step (h.inn2 x f) l
  blk2:=fun b hb=>.inl (h.blk2 b hb)
  own3:=by
   have:=ownsRow_setCell_below C (a:=⟨po,3,none⟩) (zoF _) (.slice (some ⟨g,0,none⟩) (X.acts.n+1) d);rw[show(X.al++[x']).flatMap kAct.cells=X.al.flatMap kAct.cells++kAct.cells x' by simp]
   exact this
  inn3:=fun x f=>by
   rcases List.mem_append.1 f with f|f
   ·exact kAct.step (h.inn3 x f) l
   ·simp only[zoD,zoA,or_false]at f;rw[f];exact E.fresh I kAct B
  blk3:=fun b hb=>.inr (zoq hb).symm
  own4:=yi h.own4 h.own3 (by decide) hb i (zoF _)
  inn4:=fun x f=>kTab.step (h.inn4 x f) l
  blk4:=fun b hb=>.inl (h.blk4 b hb)
  own5:=yi h.own5 h.own3 (by decide) hb i (zoF _)
  inn5:=fun x f=>kNode.step (h.inn5 x f) l
  blk5:=fun b hb=>.inl (h.blk5 b hb)
  ms:=h.ms.step (Kd.keeps kInt) l
  ms0:=h.ms0
  os:=h.os.step (Kd.keeps kInt) l
  os0:=h.os0
  oc:=h.oc
  fpo:=.inl h.fpo
  fold:=fun b hb=>.inl (h.fold b hb)
  flt:=fun k m=>by
   rw[zow];rcases m with m|rfl
   ·have:=h.flt k m;omega
   ·exact y.2
  bel:=by
   have:=h.ph;refine zoV ?_ (by show w.heap.size+2<=po;omega) _
   refine(h.bel.trans (hb.mono (by omega))).grown i (by omega) fun k m=>?_
   have:=(h.own3.lt k m).1;omega}
theorem OutAt.push4{w D wr t q W:World}{po g d:Nat}{F:Nat->Prop}{X:PlanD}{x':TabD}(h:OutAt w D po F X wr)(hb:Below wr.heap.size wr t)(I:wr.heap.size<=W.heap.size)(B:kTab.inn x' (mask (old W) (fun _=>Classical.propDecidable _) t))
 (C:q.ownsRow (po+1) 69 kTab.k (.slice (some ⟨g,0,none⟩) (X.tabs.n+1) d) (X.tabs.n+1) (X.ts.flatMap kTab.cells++kTab.cells x')) (i:t.grownBy q (Value.slice X.tabs.a X.tabs.n X.tabs.c).ownBlock) (r:X.tabs.a=some ⟨g,0,none⟩\/t.heap.size<=g):
 OutAt w D po (zae F g) {X with tabs:=⟨some ⟨g,0,none⟩,X.tabs.n+1,d⟩,ts:=X.ts++[x']} (q.setCell ⟨po,4,none⟩ (.slice (some ⟨g,0,none⟩) (X.tabs.n+1) d)):=by
 have E:=zbi (g:=g) (u:=.slice (some ⟨g,0,none⟩) (X.tabs.n+1) d) (j:=4) (v:=.slice X.tabs.a X.tabs.n X.tabs.c) h hb i h.blk4 (r.elim (fun e=>.inl (by rw[e];rfl)) .inr)
 have l:=E.mask;have s:some po≠(Value.slice X.tabs.a X.tabs.n X.tabs.c).ownBlock:=fun e=>by have:=(h.own4.lt po e.symm).1;omega
 have H:=h.pl;have cell:∀{o:Nat} {x:Value},wr.cell? ⟨po,o,none⟩=some x->q.cell? ⟨po,o,none⟩=some x:=fun f=>i.cell (za f hb) s
 have other:∀{o:Nat} {x:Value},o≠4->wr.cell? ⟨po,o,none⟩=some x->(q.setCell ⟨po,4,none⟩ (.slice (some ⟨g,0,none⟩) (X.tabs.n+1) d)).cell? ⟨po,o,none⟩=some x:=fun A f=>(zou _ _ _ _ (fun e=>A (congrArg Addr.off e).symm)).trans (cell f)
 have J:=hb.size;have G:=i.size;have y:=(C.lt g rfl);exact{
  c0:=other (by decide) h.c0
  c1:=other (by decide) h.c1
  c2:=other (by decide) h.c2
  c3:=other (by decide) h.c3
  c4:=zot _ _ _ (cell h.c4)
  c5:=other (by decide) h.c5
  c6:=other (by decide) h.c6
  fz:=fun o=>by rw[World.frozen?_setCell,i.frozen_far ⟨po,o,none⟩ (by show po<_;omega) s,hb.frozen (p:=⟨po,o,none⟩) (by show po<_;omega)];exact h.fz o
  ph:=h.ph
  pl:=by rw[zow];omega
  own0:=yi h.own0 h.own4 (by decide) hb i (zoF _)
  inn0:=fun x f=>kHead.step (h.inn0 x f) l
  blk0:=fun b hb=>.inl (h.blk0 b hb)
  own2:=yi h.own2 h.own4 (by decide) hb i (zoF _)
  inn2:=fun x f=>kState.step (h.inn2 x f) l
  blk2:=fun b hb=>.inl (h.blk2 b hb)
  own3:=yi h.own3 h.own4 (by decide) hb i (zoF _)
  inn3:=fun x f=>kAct.step (h.inn3 x f) l
  blk3:=fun b hb=>.inl (h.blk3 b hb)
  own4:=by
   have:=ownsRow_setCell_below C (a:=⟨po,4,none⟩) (zoF _) (.slice (some ⟨g,0,none⟩) (X.tabs.n+1) d);rw[show(X.ts++[x']).flatMap kTab.cells=X.ts.flatMap kTab.cells++kTab.cells x' by simp]
   exact this
  inn4:=fun x f=>by
   rcases List.mem_append.1 f with f|f
   ·exact kTab.step (h.inn4 x f) l
   ·simp only[zoD,zoA,or_false]at f;rw[f];exact E.fresh I kTab B
  blk4:=fun b hb=>.inr (zoq hb).symm
  own5:=yi h.own5 h.own4 (by decide) hb i (zoF _)
  inn5:=fun x f=>kNode.step (h.inn5 x f) l
  blk5:=fun b hb=>.inl (h.blk5 b hb)
  ms:=h.ms.step (Kd.keeps kInt) l
  ms0:=h.ms0
  os:=h.os.step (Kd.keeps kInt) l
  os0:=h.os0
  oc:=h.oc
  fpo:=.inl h.fpo
  fold:=fun b hb=>.inl (h.fold b hb)
  flt:=fun k m=>by
   rw[zow];rcases m with m|rfl
   ·have:=h.flt k m;omega
   ·exact y.2
  bel:=by
   have:=h.ph;refine zoV ?_ (by show w.heap.size+2<=po;omega) _
   refine(h.bel.trans (hb.mono (by omega))).grown i (by omega) fun k m=>?_
   have:=(h.own4.lt k m).1;omega}
theorem OutAt.push5{w D wr t q W:World}{po g d:Nat}{F:Nat->Prop}{X:PlanD}{x':NodeD}(h:OutAt w D po F X wr)(hb:Below wr.heap.size wr t)(I:wr.heap.size<=W.heap.size)(B:kNode.inn x' (mask (old W) (fun _=>Classical.propDecidable _) t))
 (C:q.ownsRow (po+1) 71 kNode.k (.slice (some ⟨g,0,none⟩) (X.nodes.n+1) d) (X.nodes.n+1) (X.ns.flatMap kNode.cells++kNode.cells x')) (i:t.grownBy q (Value.slice X.nodes.a X.nodes.n X.nodes.c).ownBlock) (r:X.nodes.a=some ⟨g,0,none⟩\/t.heap.size<=g):
 OutAt w D po (zae F g) {X with nodes:=⟨some ⟨g,0,none⟩,X.nodes.n+1,d⟩,ns:=X.ns++[x']} (q.setCell ⟨po,5,none⟩ (.slice (some ⟨g,0,none⟩) (X.nodes.n+1) d)):=by
 have E:=zbi (g:=g) (u:=.slice (some ⟨g,0,none⟩) (X.nodes.n+1) d) (j:=5) (v:=.slice X.nodes.a X.nodes.n X.nodes.c) h hb i h.blk5 (r.elim (fun e=>.inl (by rw[e];rfl)) .inr)
 have l:=E.mask;have s:some po≠(Value.slice X.nodes.a X.nodes.n X.nodes.c).ownBlock:=fun e=>by have:=(h.own5.lt po e.symm).1;omega
 have H:=h.pl;have cell:∀{o:Nat} {x:Value},wr.cell? ⟨po,o,none⟩=some x->q.cell? ⟨po,o,none⟩=some x:=fun f=>i.cell (za f hb) s
 have other:∀{o:Nat} {x:Value},o≠5->wr.cell? ⟨po,o,none⟩=some x->(q.setCell ⟨po,5,none⟩ (.slice (some ⟨g,0,none⟩) (X.nodes.n+1) d)).cell? ⟨po,o,none⟩=some x:=fun A f=>(zou _ _ _ _ (fun e=>A (congrArg Addr.off e).symm)).trans (cell f)
 have J:=hb.size;have G:=i.size;have y:=(C.lt g rfl);exact{
  c0:=other (by decide) h.c0
  c1:=other (by decide) h.c1
  c2:=other (by decide) h.c2
  c3:=other (by decide) h.c3
  c4:=other (by decide) h.c4
  c5:=zot _ _ _ (cell h.c5)
  c6:=other (by decide) h.c6
  fz:=fun o=>by rw[World.frozen?_setCell,i.frozen_far ⟨po,o,none⟩ (by show po<_;omega) s,hb.frozen (p:=⟨po,o,none⟩) (by show po<_;omega)];exact h.fz o
  ph:=h.ph
  pl:=by rw[zow];omega
  own0:=yi h.own0 h.own5 (by decide) hb i (zoF _)
  inn0:=fun x f=>kHead.step (h.inn0 x f) l
  blk0:=fun b hb=>.inl (h.blk0 b hb)
  own2:=yi h.own2 h.own5 (by decide) hb i (zoF _)
  inn2:=fun x f=>kState.step (h.inn2 x f) l
  blk2:=fun b hb=>.inl (h.blk2 b hb)
  own3:=yi h.own3 h.own5 (by decide) hb i (zoF _)
  inn3:=fun x f=>kAct.step (h.inn3 x f) l
  blk3:=fun b hb=>.inl (h.blk3 b hb)
  own4:=yi h.own4 h.own5 (by decide) hb i (zoF _)
  inn4:=fun x f=>kTab.step (h.inn4 x f) l
  blk4:=fun b hb=>.inl (h.blk4 b hb)
  own5:=by
   have:=ownsRow_setCell_below C (a:=⟨po,5,none⟩) (zoF _) (.slice (some ⟨g,0,none⟩) (X.nodes.n+1) d);rw[show(X.ns++[x']).flatMap kNode.cells=X.ns.flatMap kNode.cells++kNode.cells x' by simp]
   exact this
  inn5:=fun x f=>by
   rcases List.mem_append.1 f with f|f
   ·exact kNode.step (h.inn5 x f) l
   ·simp only[zoD,zoA,or_false]at f;rw[f];exact E.fresh I kNode B
  blk5:=fun b hb=>.inr (zoq hb).symm
  ms:=h.ms.step (Kd.keeps kInt) l
  ms0:=h.ms0
  os:=h.os.step (Kd.keeps kInt) l
  os0:=h.os0
  oc:=h.oc
  fpo:=.inl h.fpo
  fold:=fun b hb=>.inl (h.fold b hb)
  flt:=fun k m=>by
   rw[zow];rcases m with m|rfl
   ·have:=h.flt k m;omega
   ·exact y.2
  bel:=by
   have:=h.ph;refine zoV ?_ (by show w.heap.size+2<=po;omega) _
   refine(h.bel.trans (hb.mono (by omega))).grown i (by omega) fun k m=>?_
   have:=(h.own5.lt k m).1;omega}
end Go.Proofs.YtdajaaondlekfaaGreat
