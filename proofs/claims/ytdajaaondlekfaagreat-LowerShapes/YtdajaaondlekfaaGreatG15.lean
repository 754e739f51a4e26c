import Derived.Test.YtdajaaondlekfaaGreatG13
import Derived.Laws.EntriesVeiled
import Derived.Test.YtdajaaondlekfaaGreatG12
set_option maxHeartbeats 16000000
set_option maxRecDepth 20000
set_option linter.unusedSimpArgs false
namespace Go.Proofs.YtdajaaondlekfaaGreat
open Go.RowKit
structure SayD where
 act : Int
 params : QSl
 ps : List Int
def SayD.lie(d:SayD)(w:World)(g o:Nat):Prop:=CI w g o d.act/\CS w g (o+1) d.params/\Has .i64 w d.params.a d.params.n d.ps
theorem SayD.keeps:jw SayD.lie:=fun h b=>⟨h.1.step b,h.2.1.step b,h.2.2.step b⟩
theorem zkq(x:Int)(p:QSl)(hb:Nat)(act:Int)(w:World)(h0:w.cell? ⟨hb,0,none⟩=some (.int .i64 act)):
 Calls Tryz.prog 224 #[.agg #[.int .i64 x,.slice p.a p.n p.c],.pointer (some ⟨hb,0,none⟩)] w fun e w'=>e=.returned (.bool (x==act))/\Below w.heap.size w w':=by
 have b:∀o,(w.alloc o).cell? ⟨hb,0,none⟩=some (.int .i64 act):=fun o=>za h0 (ze (zof _ _))
 clear h0;go_enter Tryz.func224,Tryz.ntmps224
 go_wp2;go_ret;exact⟨rfl,ze (zof _ _)⟩
def zkr(S:List SayD)(act i:Int):Prop:=(i= -1/\∀s∈S,s.act≠act)\/∃(k:Nat) (s:SayD),i=k/\S[k]?=some s/\s.act=act
theorem zga(s:QSl)(S:List SayD)(hb:Nat)(act:Int)(w:World)(O:s.n<=100000)(D:QRow 2 SayD.lie w s S)(h0:w.cell? ⟨hb,0,none⟩=some (.int .i64 act)):
 Calls Tryz.prog 223 #[.slice s.a s.n s.c,.func (.func 224) #[] #[.pointer (some ⟨hb,0,none⟩)]] w fun e w'=>∃i,e=.returned (.int .i64 i)/\zkr S act i/\Below w.heap.size w w':=by
 obtain⟨C,ee⟩:∃C,s.a=C:=⟨_,rfl⟩;have F:=hid D;have G:=hid D.1;have H0:=hid h0;have t:Hid (Below w.heap.size w w):=zof _ _;rw[ee];have J:=hid ee;clear D h0 ee;go_enter Tryz.func223,Tryz.ntmps223
 go_wp2;go_loopw [8,5] (fun q _ wr=>∃k:Nat,k<=s.n/\q=.int .i64 k/\Hid (∀(j:Nat) (x:SayD),j<k->S[j]?=some x->x.act≠act)/\Hid (Below w.heap.size w wr)) (fun q _ _=>s.n-(intOf q).toNat)
 case atStart=>exact⟨0,zon _,rfl,fun j _ E=>absurd E (by omega),t⟩
 case round=>
  obtain⟨k,N,rfl,r,b⟩:=hrel;clear t;by_cases u:k<s.n
  ·obtain⟨g,off,x,m,h,⟨r0,_⟩,⟨r1,_⟩,_⟩:=zu (F.out.step SayD.keeps b.out) u;obtain rfl:C=some ⟨g,off,none⟩:=by rw[<-J.out];exact m
   have M:(k:Int)<(s.n:Int):=by omega
   have HC:=hid (zkq x.act x.params hb act wr (za H0.out b.out));clear m;by_cases d:x.act=act
   ·have A:Hid (zkr S act k):=.inr ⟨k,x,rfl,h,d⟩;have l:(x.act==act)=true:=by simpa using d
    rw[l]at HC;clear r h d l;go_wp2_with fail
    refine HC.out.mono ?_;rintro e K ⟨rfl,f⟩;have o:=hid (zh b.out f);clear HC f b;go_wp2;go_ret;exact⟨k,rfl,A.out,o.out⟩
   ·have l:(x.act==act)=false:=by simpa using d
    have H:Hid (∀(j:Nat) (y:SayD),j<k+1->S[j]?=some y->y.act≠act):=fun j y E B=>by
     by_cases I:j=k
     ·subst I;rw[h]at B;cases B;exact d
     ·exact r.out j y (by omega) B
    rw[l]at HC;clear r h d l;go_wp2_with fail
    refine HC.out.mono ?_;rintro e K ⟨rfl,f⟩;have o:=hid (zh b.out f);clear HC f b r0 r1;go_wp2;go_roundw
    case rel=>exact⟨k+1,by omega,by go_num,H,o⟩
    case measure=>simp[intOf];omega
  ·have L:k=s.n:=by omega
   have A:Hid (zkr S act (-1)):=.inl ⟨rfl,fun x h=>by
    obtain⟨i,hi⟩:=List.getElem?_of_mem h;have:=(zok.1 hi).1;exact r.out i x (by rw[G.out]at this;omega) hi⟩
   have o:=hid b.out;clear r b;subst L;go_wp2;go_ret;exact⟨-1,rfl,A.out,o.out⟩
def zcQ(zs ps:List Int):Int:=if zs.length≠ps.length then 2 else if jQ zs ps then 0 else 6
def zdB(S:List SayD)(act:Int)(zs:List Int)(C:Int):Prop:=((∀s∈S,s.act≠act)/\C=5)\/∃s∈S,s.act=act/\C=zcQ zs s.ps
def zg5(S:List SayD)(act:Int)(zs:List Int)(w:World)(e:Ending)(w':World):Prop:=∃C,e=.returned (.int .i64 C)/\zdB S act zs C/\Below w.heap.size w w'
theorem zks(T:Nat)(s:QSl)(S:List SayD)(act:Int)(a:Option Addr)(n c:Nat)(zs:List Int)(w:World)(hn:s.n<=100000)(hz:n<=100000)(h2:w.cell? ⟨T,2,none⟩=some (.slice s.a s.n s.c))(U:QRow 2 SayD.lie w s S)(ha:Has .u64 w a n zs):
 Calls Tryz.prog 210 #[.pointer (some ⟨T,0,none⟩),.agg #[.int .i64 act,.slice a n c]] w (zg5 S act zs w):=by
 obtain⟨F,hW⟩:∃F,F=w.alloc (.cells #[.int .i64 act,.slice a n c] 182):=⟨_,rfl⟩;obtain⟨hb,h0⟩:∃hb,hb=w.heap.size:=⟨_,rfl⟩;have z0:F.cell? ⟨hb,0,none⟩=some (.int .i64 act):=by rw[hW,h0];exact(zod _ _ _ _ rfl).trans rfl
 have z1:F.cell? ⟨hb,1,none⟩=some (.slice a n c):=by rw[hW,h0];exact(zod _ _ _ _ rfl).trans rfl
 have P:Hid (Below w.heap.size w F):=by rw[hW];exact ze (zof _ _)
 have C:=za h2 P.out;have k2:∀o,(w.alloc o).cell? ⟨T,2,none⟩=some (.slice s.a s.n s.c):=fun o=>za h2 (ze (zof _ _))
 have H:=hid (zga s S hb act F hn (U.step SayD.keeps P.out) z0);have W:=hid hW;have V:=hid h0;have X:=hid U;have R:=hid ha;clear hW h0 h2 U ha;have a0:∀(Y:Fn) (first cap:Array Value) (w:World),(Instr.makeFunc Y first cap).run Tryz.prog w=.ok (.func Y first cap) w:=fun _ _ _ _=>rfl
 go_enter Tryz.func210,Tryz.ntmps210
 go_wp2_with fail
 rw[<-W.out,<-V.out];refine H.out.mono ?_;rintro e w1 ⟨i,rfl,hi,m⟩;have l:=hid (zh P.out m);have z0:=za z0 m;have z1:=za z1 m;have C:=za C m;clear H m P W V k2;rcases hi with⟨rfl,O⟩|⟨k,x,rfl,Q,N⟩
 ·have HD:Hid (zdB S act zs 5):=.inl ⟨O,rfl⟩;clear O;go_wp2;go_ret;exact⟨5,rfl,HD.out,l.out⟩
 have hk:k<s.n:=by have:=(zok.1 Q).1;rw[X.out.1]at this;exact this
 obtain⟨g,off,x',ea,D,⟨r0,_⟩,⟨r1,_⟩,M⟩:=zu (X.out.step SayD.keeps l.out) hk;obtain rfl:x=x':=by rw[Q]at D;exact zoq D
 have a1:(k:Int)<(s.n:Int):=by omega
 have d0:decide ((k:Int)<0)=false:=zoX (by omega)
 have y:=hid M;have q:=hid (zol Q);have B:=hid N;rw[ea]at C;have G:=zm z1;have L:=zm C;have I:=zm r1;clear Q D N M;by_cases K:(n:Int)=(x.params.n:Int)
 ·have Z:((n:Int) !=(x.params.n:Int))=false:=by simpa using K
  have f:Hid (∀p:zq w1,Calls Tryz.prog 198 #[.slice a n c,.slice x.params.a x.params.n x.params.c] p.to fun e A=>e=.returned (.bool (jQ zs x.ps))/\Below p.to.heap.size p.to A):=fun p=>ze6 a x.params.a n x.params.n c x.params.c zs x.ps p.to (by omega) hz ((R.out.step l.out).step p.h) (y.out.step p.h)
  have u:Hid (zcQ zs x.ps=if jQ zs x.ps then 0 else 6):=by
   show zcQ zs x.ps=_;unfold zcQ;rw[if_neg (by have h1:=R.out.1;have h2:=y.out.1;omega)]
  have HL:=hid K;clear K;go_wp2_with fail
  haveI inhB:∀w:World,Inhabited (zq w):=fun w=>⟨⟨w,zof _ _⟩⟩
  refine zi (by kernel_rfl) (by kernel_rfl) ?_
  repeat (go_big_quiet_step (fail))
  refine wpQuiet_nil ?_;intro wq j;obtain⟨⟨_,d⟩,b⟩:=j;subst b;have t:=hid (zh l.out d);have f:Hid (∀p:zq wq,Calls Tryz.prog 198 #[.slice a n c,.slice x.params.a x.params.n x.params.c] p.to fun e A=>e=.returned (.bool (jQ zs x.ps))/\Below p.to.heap.size p.to A):=fun p=>f.out ⟨p.to,zh d p.h⟩
  have z1:=za z1 d;have C:=za C d;have r1:=za r1 d;clear G L I;have G:=zm z1;have L:=zm C;have I:=zm r1;clear d l;cases E:jQ zs x.ps with
  |true=>
   have HD:Hid (zdB S act zs 0):=.inr ⟨x,q.out,B.out,by rw[u.out,E];rfl⟩
   rw[E]at f;clear E u;go_wp2_with fail
   haveI inhB:∀w:World,Inhabited (zq w):=fun w=>⟨⟨w,zof _ _⟩⟩
   refine zi (by kernel_rfl) (by kernel_rfl) ?_
   repeat (go_big_quiet_step (first|(go_at_call 198;exact zT _ (f.out _))))
   refine wpQuiet_nil ?_;intro wr j;obtain⟨⟨_,r⟩,b⟩:=j;subst b;have J:=hid (zh t.out r);clear r f t;go_wp2;go_ret;exact⟨0,rfl,HD.out,J.out⟩
  |false=>
   have HD:Hid (zdB S act zs 6):=.inr ⟨x,q.out,B.out,by rw[u.out,E];rfl⟩
   rw[E]at f;clear E u;go_wp2_with fail
   haveI inhB:∀w:World,Inhabited (zq w):=fun w=>⟨⟨w,zof _ _⟩⟩
   refine zi (by kernel_rfl) (by kernel_rfl) ?_
   repeat (go_big_quiet_step (first|(go_at_call 198;exact zT _ (f.out _))))
   refine wpQuiet_nil ?_;intro wr j;obtain⟨⟨_,r⟩,b⟩:=j;subst b;have J:=hid (zh t.out r);clear r f t;go_wp2;go_ret;exact⟨6,rfl,HD.out,J.out⟩
 ·have Z:((n:Int) !=(x.params.n:Int))=true:=by simpa using K
  have HD:Hid (zdB S act zs 2):=.inr ⟨x,q.out,B.out,by unfold zcQ;rw[if_pos (by have h1:=R.out.1;have h2:=y.out.1;omega)]⟩
  clear K;go_wp2_with fail
  haveI inhB:∀w:World,Inhabited (zq w):=fun w=>⟨⟨w,zof _ _⟩⟩
  refine zi (by kernel_rfl) (by kernel_rfl) ?_
  repeat (go_big_quiet_step (fail))
  refine wpQuiet_nil ?_;intro wq j;obtain⟨⟨_,d⟩,b⟩:=j;subst b;have J:=hid (zh l.out d);clear d l;go_wp2;go_ret;exact⟨2,rfl,HD.out,J.out⟩
theorem xU{α :Type}{L:List α}{f: α->Int}{k:Nat}{x: α}(h:L[k]?=some x):zn ((L.drop k).map f)=if f x≠0 then f x else zn ((L.drop (k+1)).map f):=by
 obtain⟨a,e⟩:=zok.1 h;rw[zoM a,e];rfl
theorem zko(d:PlanD)(x:ActD)(w:World)(hl:d.lie w)(H:Has .i64 w x.w.a x.w.n x.ws)(F:QRow 5 OpD.lie w x.ops x.os)(hp:∀r,0<=d.p.width r []):
 Calls Tryz.prog 59 #[d.v,.agg #[.slice x.w.a x.w.n x.w.c,.slice x.ops.a x.ops.n x.ops.c]] w fun e w'=>e=.returned (.int .i64 (ki d.p x.p))/\Below w.heap.size w w':=by
 have i:Hid (ki d.p x.p=if 3<x.ws.length\/5<x.os.length then 2 else or2 (zn (x.ws.map xC)) (zn (x.os.map (fun o=>zx d.p x.ws o.p)))):=by
  show ki d.p x.p=_;unfold ki ActD.p;simp only[zoE,List.map_map];rfl
 have E:=hid H.1;have B:=hid F.1;obtain⟨s,hW⟩:∃s,s=((w.alloc (.cells #[.slice d.heads.a d.heads.n d.heads.c,.slice d.mta.a d.mta.n d.mta.c,.slice d.states.a d.states.n d.states.c,.slice d.acts.a d.acts.n d.acts.c,.slice d.tabs.a d.tabs.n d.tabs.c,.slice d.nodes.a d.nodes.n d.nodes.c,.slice d.out.a d.out.n d.out.c] 29)).alloc (.cells #[.slice x.w.a x.w.n x.w.c,.slice x.ops.a x.ops.n x.ops.c] 63)):=⟨_,rfl⟩;obtain⟨b0,h0⟩:∃b0,b0=w.heap.size:=⟨_,rfl⟩;obtain⟨Q,h1⟩:∃Q,Q=w.heap.size+1:=⟨_,rfl⟩;have z0:s.cell? ⟨b0,0,none⟩=some (.slice d.heads.a d.heads.n d.heads.c):=by rw[hW,h0];exact(zoe _ _ _ (by simp)).trans ((zod _ _ _ _ rfl).trans rfl)
 have z1:s.cell? ⟨b0,1,none⟩=some (.slice d.mta.a d.mta.n d.mta.c):=by rw[hW,h0];exact(zoe _ _ _ (by simp)).trans ((zod _ _ _ _ rfl).trans rfl)
 have U:s.cell? ⟨b0,2,none⟩=some (.slice d.states.a d.states.n d.states.c):=by rw[hW,h0];exact(zoe _ _ _ (by simp)).trans ((zod _ _ _ _ rfl).trans rfl)
 have V:s.cell? ⟨b0,3,none⟩=some (.slice d.acts.a d.acts.n d.acts.c):=by rw[hW,h0];exact(zoe _ _ _ (by simp)).trans ((zod _ _ _ _ rfl).trans rfl)
 have T:s.cell? ⟨b0,4,none⟩=some (.slice d.tabs.a d.tabs.n d.tabs.c):=by rw[hW,h0];exact(zoe _ _ _ (by simp)).trans ((zod _ _ _ _ rfl).trans rfl)
 have W:s.cell? ⟨b0,5,none⟩=some (.slice d.nodes.a d.nodes.n d.nodes.c):=by rw[hW,h0];exact(zoe _ _ _ (by simp)).trans ((zod _ _ _ _ rfl).trans rfl)
 have Z:s.cell? ⟨b0,6,none⟩=some (.slice d.out.a d.out.n d.out.c):=by rw[hW,h0];exact(zoe _ _ _ (by simp)).trans ((zod _ _ _ _ rfl).trans rfl)
 have y0:s.cell? ⟨Q,0,none⟩=some (.slice x.w.a x.w.n x.w.c):=by rw[hW,h1];exact(zod _ _ _ _ (by simp)).trans rfl
 have y1:s.cell? ⟨Q,1,none⟩=some (.slice x.ops.a x.ops.n x.ops.c):=by rw[hW,h1];exact(zod _ _ _ _ (by simp)).trans rfl
 have P:Hid (Below w.heap.size w s):=by rw[hW];exact ze (ze (zof _ _))
 have E3:=hid hW;have E0:=hid h0;have E1:=hid h1;have HL:=hid hl;have HW:=hid H;have HO:=hid F;have HP:=hid hp;clear hW h0 h1 hl H F hp;by_cases K:(3:Int)<(x.w.n:Int)
 ·have d3:=zoY K;rw[if_pos (.inl (by rw[E.out];omega))]at i
  clear K;go_enter Tryz.func59,Tryz.ntmps59
  go_wp2;go_ret;exact⟨by rw[i.out];rfl,ze (ze (zof _ _))⟩
 have d3:=zoX K;by_cases R:(5:Int)<(x.ops.n:Int)
 ·have d5:=zoY R;rw[if_pos (.inr (by rw[B.out];omega))]at i
  clear K R;go_enter Tryz.func59,Tryz.ntmps59
  go_wp2;go_ret;exact⟨by rw[i.out];rfl,ze (ze (zof _ _))⟩
 have d5:=zoX R;rw[if_neg (by rw[E.out,B.out];omega)]at i
 have a7:x.w.n<=3:=by omega
 have a9:x.ops.n<=5:=by omega
 clear K R;go_enter Tryz.func59,Tryz.ntmps59
 go_wp2;rw[<-E3.out,<-E1.out,<-E0.out];clear E3 E1 E0 d3 d5;go_loopw [5] (fun q wr=>∃k:Nat,k<=x.w.n/\q=.int .i64 k/\Hid (zn (x.ws.map xC)=zn ((x.ws.drop k).map xC))/\Hid (s=wr)) (fun q _=>x.w.n-(intOf q).toNat)
 case atStart=>exact⟨0,zon _,rfl,rfl,rfl⟩
 case round=>
  obtain⟨k,hk,rfl,b,L⟩:=hrel;obtain rfl:=L.out;clear L;by_cases S:k<x.w.n
  ·obtain⟨g,off,u,ea,hu,r0⟩:=zaL (HW.out.step P.out) S;have a1:(k:Int)<(x.w.n:Int):=by omega
   have m:=xU (f:=xC) hu;clear hu;by_cases J:u<1
   ·have f1:=zoY J;have y:Hid (ki d.p x.p=6):=by
     show ki d.p x.p=6;rw[i.out,b.out,m,show xC u=6 from if_pos (.inl J)]
     rfl
    clear m b J;go_wp2;go_ret;exact⟨by rw[y.out];rfl,P.out⟩
   have f1:=zoX J;by_cases O:48<u
   ·have f2:=zoY O;have y:Hid (ki d.p x.p=6):=by
     show ki d.p x.p=6;rw[i.out,b.out,m,show xC u=6 from if_pos (.inr O)]
     rfl
    clear m b J O;go_wp2;go_ret;exact⟨by rw[y.out];rfl,P.out⟩
   ·have f2:=zoX O;have y:Hid (zn (x.ws.map xC)=zn ((x.ws.drop (k+1)).map xC)):=by
     show zn (x.ws.map xC)=_;rw[b.out,m,show xC u=0 from if_neg (by omega)]
     rfl
    clear m b J O;go_wp2;go_roundw
    case rel=>exact⟨k+1,by omega,by go_num,y,trivial⟩
    case measure=>simp[intOf];omega
  ·have ek:k=x.w.n:=by omega
   have M:Hid (ki d.p x.p=zn (x.os.map (fun o=>zx d.p x.ws o.p))):=by
    show ki d.p x.p=_;have:zn (x.ws.map xC)=0:=by rw[b.out,ek,<-E.out,zoP];rfl
    rw[i.out,this];rfl
   have a1:¬(k:Int)<(x.w.n:Int):=by omega
   have N:Hid (Below s.heap.size s s):=zof _ _;clear b i ek;go_wp2;go_loopw [6,7] (fun q _ wr=>∃j:Nat,j<=x.ops.n/\q=.int .i64 j/\Hid (zn (x.os.map (fun o=>zx d.p x.ws o.p))=zn ((x.os.drop j).map (fun o=>zx d.p x.ws o.p)))/\Hid (Below s.heap.size s wr)) (fun q _ _=>x.ops.n-(intOf q).toNat)
   case atStart=>exact⟨0,zon _,rfl,rfl,N⟩
   case round=>
    obtain⟨j,hj,rfl,b,l⟩:=hrel;clear N;have G:=hid (zh P.out l.out);have z0:=za z0 l.out;have z1:=za z1 l.out;have U:=za U l.out;have V:=za V l.out;have T:=za T l.out;have W:=za W l.out;have Z:=za Z l.out;have y0:=za y0 l.out;have y1:=za y1 l.out;by_cases a0:j<x.ops.n
    ·obtain⟨g,off,o,ea,ho,⟨q0,_⟩,⟨q1,_⟩,⟨q2,_⟩,⟨q3,_⟩,⟨q4,_⟩,he⟩:=zu (HO.out.step OpD.keeps G.out) a0;have Y:(j:Int)<(x.ops.n:Int):=by omega
     have m:=xU (f:=fun o=>zx d.p x.ws o.p) ho
     have HD:Hid (∀p:zq wr,Calls Tryz.prog 100 #[d.v,o.v,.slice x.w.a x.w.n x.w.c] p.to fun e w'=>e=.returned (.int .i64 (zx d.p x.ws o.p))/\Below p.to.heap.size p.to w'):=fun p=>zih d o x.w.a x.w.n x.w.c x.ws p.to (HL.out.step (zh G.out p.h)) (HW.out.step (zh G.out p.h)) (he.step PushD.keeps p.h) (HP.out o.r)
     rw[ea]at y1;have b9:=zm z0;have a6:=zm z1;have b3:=zm U;have b4:=zm V;have a2:=zm T;have a3:=zm W;have b7:=zm Z;have a5:=zm y0;have b6:=zm y1;have b5:=zm q0;have a4:=zm q1;have b8:=zm q2;have a8:=zm q3;have b2:=zm q4;clear ho he;generalize zx d.p x.ws o.p=C at*;by_cases I:C=0
     ·have y:Hid (zn (x.os.map (fun o=>zx d.p x.ws o.p))=zn ((x.os.drop (j+1)).map (fun o=>zx d.p x.ws o.p))):=by
       show zn (x.os.map (fun o=>zx d.p x.ws o.p))=_
       rw[b.out,m,if_neg (by simpa using I)]
      have bC:(C !=0)=false:=by simpa using I
      clear m b I;go_wp2_with fail
      haveI inhB:∀w:World,Inhabited (zq w):=fun w=>⟨⟨w,zof _ _⟩⟩
      refine zi (by kernel_rfl) (by kernel_rfl) ?_
      repeat (go_big_quiet_step (first|(go_at_call 100;exact zT _ (HD.out _))))
      refine wpQuiet_nil ?_;intro wq D;obtain⟨⟨_,t⟩,A⟩:=D;subst A;have X:=hid (zh l.out t);clear t HD l G;go_wp2;go_roundw
      case rel=>exact⟨j+1,by omega,by go_num,y,X⟩
      case measure=>simp[intOf];omega
     ·have y:Hid (ki d.p x.p=C):=by
       show ki d.p x.p=C;rw[M.out,b.out,m,if_pos I]
      have bC:(C !=0)=true:=by simpa using I
      clear m b I;go_wp2_with fail
      haveI inhB:∀w:World,Inhabited (zq w):=fun w=>⟨⟨w,zof _ _⟩⟩
      refine zi (by kernel_rfl) (by kernel_rfl) ?_
      repeat (go_big_quiet_step (first|(go_at_call 100;exact zT _ (HD.out _))))
      refine wpQuiet_nil ?_;intro wq D;obtain⟨⟨_,t⟩,A⟩:=D;subst A;have X:=hid (zh G.out t);clear t HD l G;go_wp2;go_ret;exact⟨by rw[y.out];rfl,X.out⟩
    ·have ej:j=x.ops.n:=by omega
     have Y:¬(j:Int)<(x.ops.n:Int):=by omega
     have y:Hid (ki d.p x.p=0):=by
      show ki d.p x.p=0;rw[M.out,b.out,ej,<-B.out,zoP];rfl
     clear b ej;go_wp2;go_ret;exact⟨by rw[y.out];rfl,G.out⟩
end Go.Proofs.YtdajaaondlekfaaGreat
