import Derived.Test.YtbmcgbmegcpgnaaGreatVQFirst
import Derived.Test.YtbmcgbmegcpgnaaGreatG1
import Derived.Test.YtbmcgbmegcpgnaaGreatG3
import Derived.Test.YtbmcgbmegcpgnaaGreatVQWidth2
import Derived.Deep.RegionHeld3
import Derived.Test.YtbmcgbmegcpgnaaGreatVQJ2
set_option maxHeartbeats 8000000
set_option maxRecDepth 20000
set_option linter.unusedSimpArgs false
namespace Go.Proofs.YtbmcgbmegcpgnaaGreat
open Go.RowKit
def zkl(L:List Int)(x i:Int):Prop:=(i= -1/\x ∉ L)\/(∃k:Nat,i=k/\L[k]?=some x)
theorem zie(a:Option Addr)(n c:Nat)(L:List Int)(x:Int)(w:World)(I:n<=100000)(m:Has .i64 w a n L):
 Calls Tryz.prog 135 #[.slice a n c,.int .i64 x] w fun e w'=>∃i,e=.returned (.int .i64 i)/\zkl L x i/\w'=w:=by
 have d:=m.1;have F:=hid m;have D:=hid d;obtain⟨u,ee⟩:∃u,a=u:=⟨_,rfl⟩;clear m d;go_enter Tryz.func135,Tryz.ntmps135
 go_wp2;go_loop [8,5] (fun q _=>∃k:Nat,k<=n/\q=.int .i64 k/\Hid (∀j:Nat,j<k->L[j]?≠some x)) (fun q _=>n-(intOf q).toNat)
 case atStart=>exact⟨0,zon _,rfl,fun j t=>absurd t (by omega)⟩
 case round=>
  obtain⟨k,G,rfl,hz⟩:=hrel;by_cases r:k<n
  ·obtain⟨g,off,y,f,l,H⟩:=zaL (s:=⟨a,n,c⟩) F.out r;dsimp only at f;subst f;have B:(k:Int)<(n:Int):=by omega
   by_cases b:x=y
   ·subst b;have o:Hid (zkl L x k):=.inr ⟨k,rfl,l⟩;clear hz l ee;go_wp2;go_ret;exact⟨k,rfl,o.out,rfl⟩
   ·have J:(x==y)=false:=by simpa using b
    have A:Hid (∀j:Nat,j<k+1->L[j]?≠some x):=fun j t=>by
     by_cases E:j=k
     ·subst E;rw[l];intro h;exact b (zoq h).symm
     ·exact hz.out j (by omega)
    clear hz l b ee;go_wp2;go_round
    case rel=>exact⟨k+1,by omega,by go_num,A⟩
    case measure=>simp[intOf];omega
  ·have C:k=n:=by omega
   have o:Hid (zkl L x (-1)):=.inl ⟨rfl,fun h=>by
    obtain⟨i,hi⟩:=List.getElem?_of_mem h;have:=(zok.1 hi).1;exact hz.out i (by rw[D.out]at this;omega) hi⟩
   clear hz ee;subst C;go_wp2;go_ret;exact⟨-1,rfl,o.out,rfl⟩
theorem zbm(a:Option Addr)(n c:Nat)(L:List Int)(x:Int)(w:World)(g:n<=100000)(f:Has .i64 w a n L):
 Calls Tryz.prog 96 #[.slice a n c,.int .i64 x] w fun e w'=>e=.returned (.bool (decide (x∈L)))/\w'=w:=by
 have d:=hid (zie a n c L x w g f);clear f;go_enter Tryz.func96,Tryz.ntmps96
 go_wp2_with fail
 refine d.out.mono ?_;rintro e j ⟨i,rfl,hi,rfl⟩;rcases hi with⟨rfl,b⟩|⟨k,rfl,b⟩
 ·have HD:=hid (zoX b);clear d b;go_wp2;go_ret;exact⟨by rw[HD.out];rfl,rfl⟩
 ·have HD:=hid (zoY (zol b));have h:decide ((0:Int)<=(k:Int))=true:=zoY (by omega)
  clear d b;go_wp2;go_ret;exact⟨by rw[HD.out];rfl,rfl⟩
theorem zeU{w:World}{a:Option Addr}{n k:Nat}{L:List Int}(h:Has .i64 w a n L)(j:k<=n):Has .i64 w a k (L.take k):=by
 refine⟨by rw[List.length_take,h.1];omega,fun x f=>h.2.1 x (List.mem_of_mem_take f),?_⟩
 by_cases c:k=0
 ·subst c;exact .inl (by simp)
 ·obtain⟨g,off,e,d,b⟩:=h.some (by omega)
  refine .inr ⟨g,off,e,d,fun i hi=>?_⟩
  rw[b i (by omega)]
  simp only[zoi,List.getElem?_take,if_pos hi]
theorem zlN(d:PlanD)(w:World)(G:d.lie w)(R:d.out.n<=100000)(k:Nat)(P:k<d.out.n):
 Calls Tryz.prog 51 #[d.v,.int .i64 k] w fun e w'=>e=.returned (.int .i64 (zf4 d.p k))/\Below w.heap.size w w':=by
 obtain⟨g,off,x,N,M,c0⟩:=zaL G.os P;have u:d.p.hs.length=d.heads.n:=by simp[PlanD.p,G.hs.1]
 have C:d.p.os.getD k 0=x:=by simp only[PlanD.p,zoi,M,zoC]
 have f:Hid (zf4 d.p k=if 0<=x/\x<(d.heads.n:Int)then(if x∈d.os.take k then 7 else 0)else 1):=by
  show zf4 d.p k=_;unfold zf4;rw[C,u];rfl
 have s:Hid (∀w',Calls Tryz.prog 86 #[.slice d.heads.a d.heads.n d.heads.c,.int .i64 x] w' fun e q=>e=.returned (.bool (decide (0<=x/\x<(d.heads.n:Int))))/\q=w'):=fun w'=>zbN _ _ _ _ w'
 have i:Hid (∀w',Below w.heap.size w w'->Calls Tryz.prog 96 #[.slice (some ⟨g,off,none⟩) k d.out.c,.int .i64 x] w' fun e q=>e=.returned (.bool (decide (x∈d.os.take k)))/\q=w'):=fun w' h=>zbm _ k _ _ x w' (by omega) (by rw[<-N];exact zeU (G.os.step h) (by omega))
 obtain⟨E,hW⟩:∃E,E=w.alloc (.cells #[.slice d.heads.a d.heads.n d.heads.c,.slice d.mta.a d.mta.n d.mta.c,.slice d.states.a d.states.n d.states.c,.slice d.acts.a d.acts.n d.acts.c,.slice d.tabs.a d.tabs.n d.tabs.c,.slice d.nodes.a d.nodes.n d.nodes.c,.slice (some ⟨g,off,none⟩) d.out.n d.out.c] 102):=⟨_,rfl⟩;obtain⟨I,h0⟩:∃I,I=w.heap.size:=⟨_,rfl⟩;have z0:E.cell? ⟨I,0,none⟩=some (.slice d.heads.a d.heads.n d.heads.c):=by rw[hW,h0];exact(zod _ _ _ _ rfl).trans rfl
 have K:E.cell? ⟨I,6,none⟩=some (.slice (some ⟨g,off,none⟩) d.out.n d.out.c):=by rw[hW,h0];exact(zod _ _ _ _ rfl).trans rfl
 have F:Hid (Below w.heap.size w E):=by rw[hW];exact ze (zof _ _)
 have c1:=za c0 F.out;have D:=zm z0;have A:=zm K;have B:=zm c1;have J:=hid hW;have H:=hid h0;have O:(k:Int)<(d.out.n:Int):=by omega
 have Q:(k:Int)<=(d.out.n:Int):=by omega
 have L:(d.out.n:Int)<=(d.out.c:Int):=by have:=G.oc;omega
 clear hW h0 G M c0 u C;by_cases r:0<=x/\x<(d.heads.n:Int)
 ·rw[if_pos r]at f;rw[zoY r]at s;clear r;go_enter Tryz.func51,Tryz.ntmps51
  go_wp2_with fail
  rw[<-J.out,<-H.out];clear J H;haveI inhB:∀w:World,Inhabited (zq w):=fun w=>⟨⟨w,zof _ _⟩⟩
  refine zi (by kernel_rfl) (by kernel_rfl) ?_
  repeat (go_big_quiet_step (first|(go_at_call 86;exact zt _ (s.out _))))
  refine wpQuiet_nil ?_;intro wq l;obtain⟨⟨_,j⟩,b⟩:=l;subst b;have m:=hid (zh F.out j);have z0:=za z0 j;have K:=za K j;have c1:=za c1 j;clear D A B j F;have D:=zm z0;have A:=zm K;have B:=zm c1;have i:Hid (∀p:zq wq,Calls Tryz.prog 96 #[.slice (some ⟨g,off,none⟩) k d.out.c,.int .i64 x] p.to fun e q=>e=.returned (.bool (decide (x∈d.os.take k)))/\q=p.to):=fun p=>i.out p.to (zh m.out p.h)
  by_cases t:x∈d.os.take k
  ·rw[if_pos t]at f;rw[zoY t]at i;clear t s;go_wp2_with fail
   haveI inhB:∀w:World,Inhabited (zq w):=fun w=>⟨⟨w,zof _ _⟩⟩
   refine zi (by kernel_rfl) (by kernel_rfl) ?_
   repeat (go_big_quiet_step (first|(go_at_call 96;exact zt _ (i.out _))))
   refine wpQuiet_nil ?_;intro wr l;obtain⟨⟨_,o⟩,b⟩:=l;subst b;have y:=hid (zh m.out o);clear m o i;go_wp2;go_ret;exact⟨by rw[f.out];rfl,y.out⟩
  ·rw[if_neg t]at f;rw[zoX t]at i;clear t s;go_wp2_with fail
   haveI inhB:∀w:World,Inhabited (zq w):=fun w=>⟨⟨w,zof _ _⟩⟩
   refine zi (by kernel_rfl) (by kernel_rfl) ?_
   repeat (go_big_quiet_step (first|(go_at_call 96;exact zt _ (i.out _))))
   refine wpQuiet_nil ?_;intro wr l;obtain⟨⟨_,o⟩,b⟩:=l;subst b;have y:=hid (zh m.out o);clear m o i;go_wp2;go_ret;exact⟨by rw[f.out];rfl,y.out⟩
 ·rw[if_neg r]at f;rw[zoX r]at s;clear r i;go_enter Tryz.func51,Tryz.ntmps51
  go_wp2_with fail
  rw[<-J.out,<-H.out];clear J H;haveI inhB:∀w:World,Inhabited (zq w):=fun w=>⟨⟨w,zof _ _⟩⟩
  refine zi (by kernel_rfl) (by kernel_rfl) ?_
  repeat (go_big_quiet_step (first|(go_at_call 86;exact zt _ (s.out _))))
  refine wpQuiet_nil ?_;intro wq l;obtain⟨⟨_,j⟩,b⟩:=l;subst b;have y:=hid (zh F.out j);clear F j;go_wp2;go_ret;exact⟨by rw[f.out];rfl,y.out⟩
theorem znL{ops:Array Oper}{o:Oper}{a:Act}{w:World}{K:Act->World->Prop}{Q:Exit->Act->World->Prop}{E:Prop}(f:o.guard=none)(s x:Operand)
 (q:o.op=.call {callee:=.builtin .append,args:= #[s,x],argTypes:= #[23,23]}) (base n m c:Nat) (v:Value) (j zs:List Int) (ad:Addr)
 (hs:a.eval s=v) (A:a.eval x=.slice (some ad) m c) (d:w.ownsRow base 3 1 v n (II j)) (hz:Has .i64 w (some ad) m zs) (e:n+m<=10000000) (b:base<=w.heap.size)
 (h:∀v' w',w'.ownsRow base 3 1 v' (n+m) (II (j++zs))->Below base w w'->K (a.put o.dst v') w'):
 if Region.wanted o (yielded ops a.tmps)=true then Oper.wp Tryz.prog o a w K Q else E:=by
 have hw:Region.wanted o (yielded ops a.tmps)=true:=by simp[Region.wanted,f]
 rw[if_pos hw];obtain⟨t,hi,g,l,i⟩:=info_parts Tryz.infoInt;refine wp_append_own w s x 23 q base 3 t (.int .i64 0) 1 8 Tryz.underlying23 hi g l i rfl (by decide) v n (II j) hs d ad m c (II zs) A (by have:=hz.1;simp[II];omega) (zaN hz) (zge zs) (by unfold maxLen;omega) (by omega) b ?_
 intro v' w' y r _;refine h v' w' (by simpa[II]using y) ((zof _ _).grown r b ?_)
 intro k u;exact(d.lt k u).1
theorem zm3{w w':World}{s g o B:Nat}{v0 v1 v2 v3 v4 v5 v6 c d e:Value}(h:w.cell? ⟨s,0,none⟩=some v0/\w.cell? ⟨s,1,none⟩=some v1/\w.cell? ⟨s,2,none⟩=some v2/\w.cell? ⟨s,3,none⟩=some v3/\w.cell? ⟨s,4,none⟩=some v4/\w.cell? ⟨s,5,none⟩=some v5/\w.cell? ⟨s,6,none⟩=some v6/\w.cell? ⟨s+1,1,none⟩=some c/\w.cell? ⟨g,o,none⟩=some d/\w.cell? ⟨g,o+1,none⟩=some e)(b:Below B w w')(hs:s<B)(a:s+1<B)(f:g<B):w'.cell? ⟨s,0,none⟩=some v0/\w'.cell? ⟨s,1,none⟩=some v1/\w'.cell? ⟨s,2,none⟩=some v2/\w'.cell? ⟨s,3,none⟩=some v3/\w'.cell? ⟨s,4,none⟩=some v4/\w'.cell? ⟨s,5,none⟩=some v5/\w'.cell? ⟨s,6,none⟩=some v6/\w'.cell? ⟨s+1,1,none⟩=some c/\w'.cell? ⟨g,o,none⟩=some d/\w'.cell? ⟨g,o+1,none⟩=some e:=
 ⟨(b.cell (p:=⟨s,0,none⟩) hs).trans (h.1),(b.cell (p:=⟨s,1,none⟩) hs).trans (h.2.1),(b.cell (p:=⟨s,2,none⟩) hs).trans (h.2.2.1),(b.cell (p:=⟨s,3,none⟩) hs).trans (h.2.2.2.1),(b.cell (p:=⟨s,4,none⟩) hs).trans (h.2.2.2.2.1),(b.cell (p:=⟨s,5,none⟩) hs).trans (h.2.2.2.2.2.1),(b.cell (p:=⟨s,6,none⟩) hs).trans (h.2.2.2.2.2.2.1),(b.cell (p:=⟨s+1,1,none⟩) a).trans (h.2.2.2.2.2.2.2.1),(b.cell (p:=⟨g,o,none⟩) f).trans (h.2.2.2.2.2.2.2.2.1),(b.cell (p:=⟨g,o+1,none⟩) f).trans (h.2.2.2.2.2.2.2.2.2)⟩
theorem zea(d:PlanD)(t:TabD)(w:World)(hl:d.lie w)(I:QRow 2 RefD.lie w t.keys t.ks)(hn:t.keys.n<=10000):
 Calls Tryz.prog 25 #[d.v,t.v] w (xt w (yw d t.ks)):=by
 have A:=hid I.1;have S:=hid hl;have V:=hid I;have H:Hid (Below (w.heap.size+2) ((w.alloc d.box).alloc t.box) ((w.alloc d.box).alloc t.box)):=zof _ _;clear hl I;go_enter Tryz.func25,Tryz.ntmps25
 go_wp2;go_loopw [5,6] (fun v q wr=>∃k:Nat,k<=t.keys.n/\q=.int .i64 k/\Hid (wr.ownsRow (w.heap.size+2) 3 1 v k (II (yw d (t.ks.take k))))/\Hid (Below (w.heap.size+2) ((w.alloc d.box).alloc t.box) wr)) (fun _ q _=>t.keys.n-(intOf q).toNat)
 case atStart=>exact⟨0,zon _,rfl,zoH _ _ _ _,H⟩
 case round=>
  rename_i v0 _
  obtain⟨k,I,rfl,E,hb⟩:=hrel;have J:Hid (Below w.heap.size w wr):=(ze (ze (zof w.heap.size w))).trans (hb.out.mono (by omega))
  have M:w.heap.size+2<=wr.heap.size:=by have:=hb.out.size;simpa using this
  obtain⟨L,c0,rfl,_,y⟩:=jR E.out;have P:=hid y;clear y;clear H;have b:=(jx hb.out).1;by_cases F:k<t.keys.n
  ·obtain⟨g,off,r,W,hr,⟨⟨r0,_⟩,⟨r1,_⟩⟩⟩:=zu (V.out.step RefD.keeps J.out) F;have q1:=(jx hb.out).2;have a2:(k:Int)<(t.keys.n:Int):=by omega
   have hg:g<w.heap.size+2:=by
    obtain⟨g',a1,r',l,_,⟨⟨T,_⟩,_⟩⟩:=zu V.out F;have:=zog w _ T;rw[W]at l;simp only[zoo,Addr.mk.injEq,and_true]at l;have e:=l.1;simp only at this;omega
   have p0:wr.cell? ⟨w.heap.size,0,none⟩=some (.slice d.heads.a d.heads.n d.heads.c):=b 0;have p1:wr.cell? ⟨w.heap.size,1,none⟩=some (.slice d.mta.a d.mta.n d.mta.c):=b 1;have p2:wr.cell? ⟨w.heap.size,2,none⟩=some (.slice d.states.a d.states.n d.states.c):=b 2;have p3:wr.cell? ⟨w.heap.size,3,none⟩=some (.slice d.acts.a d.acts.n d.acts.c):=b 3;have p4:wr.cell? ⟨w.heap.size,4,none⟩=some (.slice d.tabs.a d.tabs.n d.tabs.c):=b 4;have p5:wr.cell? ⟨w.heap.size,5,none⟩=some (.slice d.nodes.a d.nodes.n d.nodes.c):=b 5;have p6:wr.cell? ⟨w.heap.size,6,none⟩=some (.slice d.out.a d.out.n d.out.c):=b 6;rw[W]at q1;have Z:Hid (yw d (t.ks.take k)++[zdb d r]=yw d (t.ks.take (k+1))):=by
    simp only[Hid,yw];rw[zoI,hr];simp
   have o:=hid (zcV S.out (zW .i64 w) r.h r.f);have U:Hid (Calls Tryz.prog 65 #[d.v,.agg #[.int .i64 r.h,.int .i64 r.f],.slice none 0 0] wr.drew fun e w'=>e=.returned (.int .i64 (zdb d r))/\Below wr.drew.heap.size wr.drew w'):=jI d r.h r.f none 0 0 [] _ ((S.out.step J.out).step (zof wr.heap.size wr).drew) (zW _ _)
   have s:Hid ((Lit.int .i64 (zdb d r)).wf=true):=o;clear o;generalize zdb d r=R at*;have u:=hid E.out.drew;have O:Hid (w.heap.size+2<=wr.drew.heap.size):=by show w.heap.size+2<=wr.drew.heap.size;simpa using M
   clear b;go_wp2_with fail
   go_region_held3 (fun w'=>w'.cell? ⟨w.heap.size,0,none⟩=some (.slice d.heads.a d.heads.n d.heads.c)/\w'.cell? ⟨w.heap.size,1,none⟩=some (.slice d.mta.a d.mta.n d.mta.c)/\w'.cell? ⟨w.heap.size,2,none⟩=some (.slice d.states.a d.states.n d.states.c)/\w'.cell? ⟨w.heap.size,3,none⟩=some (.slice d.acts.a d.acts.n d.acts.c)/\w'.cell? ⟨w.heap.size,4,none⟩=some (.slice d.tabs.a d.tabs.n d.tabs.c)/\w'.cell? ⟨w.heap.size,5,none⟩=some (.slice d.nodes.a d.nodes.n d.nodes.c)/\w'.cell? ⟨w.heap.size,6,none⟩=some (.slice d.out.a d.out.n d.out.c)/\w'.cell? ⟨w.heap.size+1,1,none⟩=some (.slice (some ⟨g,off,none⟩) t.keys.n t.keys.c)/\w'.cell? ⟨g,off+k*2,none⟩=some (.int .i64 r.h)/\w'.cell? ⟨g,off+k*2+1,none⟩=some (.int .i64 r.f))
    (first
     |go_keep
     |(go_split_ands
       exact zm3 ⟨by assumption,by assumption,by assumption,by assumption,by assumption,by assumption,by assumption,by assumption,by assumption,by assumption⟩ i (by omega) (by omega) hg))
    (first
     |(go_at_call 65;refine U.out.mono ?_;rintro e wx ⟨rfl,j⟩;have i:=j.mono O.out;have C:=hid (zU u.out j);have m:=hid (zoz O.out j.size);have B:=hid i)
     |(refine znL rfl _ _ rfl (w.heap.size+2) k 1 1 (.slice L k c0) _ [R] ⟨_,0,none⟩ (by simp[Act.eval]) (by simp[Act.eval]) (zU C.out (ze (zof _ _))) (qi _ R s.out) (by omega) (by simp;have:=m.out;omega) ?_;intro v1 X D i;have x:=hid D;have G:=hid i))
   all_goals
    have K:Hid (X.ownsRow (w.heap.size+2) 3 1 v1 (k+1) (II (yw d (t.ks.take (k+1))))):=by rw[<-Z.out];exact x.out
    have Q:Hid (Below (w.heap.size+2) ((w.alloc d.box).alloc t.box) X):=(((hb.out.drew).trans B.out).alloc m.out _).trans G.out;clear x G B m C O u U Z E hb J D i j;go_wp2;go_roundw
    case rel=>exact⟨k+1,by omega,by go_num,K,Q⟩
    case measure=>simp[intOf];omega
  ·have Y:k=t.keys.n:=by omega
   have q1:=(jx hb.out).2;have HF:Hid (xt w (yw d t.ks) (.returned (.slice L k c0)) wr):=by
    have h2:=E.out;rw[List.take_of_length_le (by rw[A.out];omega)]at h2
    have N:(yw d t.ks).length=k:=by rw[yw,zoE,A.out,Y]
    refine⟨L,c0,by rw[N],fun e=>by rw[N];exact P.out e,?_,J.out⟩
    rw[N];refine kJ h2 fun n hn=>?_
    obtain⟨r,_,rfl⟩:=zoJ.1 hn;exact zcV S.out (zW _ w) _ _
   clear E hb b;subst Y;go_wp2;go_ret;exact HF.out
theorem zb4(op:Int): -1<=yk op/\yk op<=2:=by
 unfold yk;split
 ·omega
 split
 ·omega
 split<;>omega
theorem zdD{p:PPlan}{zs:List Int}{es:List PushD}{k:Nat}{x:PushD}(h:es[k]?=some x)(left:Int):
 zN p zs (es.drop k) left=(if yk x.op<0\/left<yk x.op then 13 else if x.op=2/\p.width x.r zs=0 then 1 else zN p zs (es.drop (k+1)) (left+(1-yk x.op))):=by
 obtain⟨a,e⟩:=zok.1 h;rw[zoM a,e];rfl
def qg(p:PPlan)(es:List PushD)(zs:List Int)(w:World)(e:Ending)(w':World):Prop:=e=.returned (.int .i64 (xl p es zs))/\Below w.heap.size w w'
abbrev JO(d:PlanD):Obj:=.cells #[.slice d.heads.a d.heads.n d.heads.c,.slice d.mta.a d.mta.n d.mta.c,.slice d.states.a d.states.n d.states.c,.slice d.acts.a d.acts.n d.acts.c,.slice d.tabs.a d.tabs.n d.tabs.c,.slice d.nodes.a d.nodes.n d.nodes.c,.slice d.out.a d.out.n d.out.c] 102
theorem zgb{d:PlanD}{w wr:World}(hb:Below (w.heap.size+1) (w.alloc (JO d)) wr)(i:Nat):wr.cell? ⟨w.heap.size,i,none⟩=(#[.slice d.heads.a d.heads.n d.heads.c,.slice d.mta.a d.mta.n d.mta.c,.slice d.states.a d.states.n d.states.c,.slice d.acts.a d.acts.n d.acts.c,.slice d.tabs.a d.tabs.n d.tabs.c,.slice d.nodes.a d.nodes.n d.nodes.c,.slice d.out.a d.out.n d.out.c]:Array Value)[i]?:=
 (hb.cell (p:=⟨w.heap.size,i,none⟩) (by simp)).trans (zod _ _ _ _ rfl)
theorem ze8(d:PlanD)(e:QSl)(es:List PushD)(M:Option Addr)(an V:Nat)(zs:List Int)(w:World)(Y:d.lie w)(O:QRow 4 PushD.lie w e es)(hz:Has .i64 w M an zs):
 Calls Tryz.prog 133 #[d.v,.slice e.a e.n e.c,.slice M an V] w (qg d.p es zs w):=by
 have B:=O.1;by_cases h8:(8:Int)<(e.n:Int)
 ·have Q:Hid (∀w',Below w.heap.size w w'->qg d.p es zs w (.returned (.int .i64 2)) w'):=fun w' hb=>⟨by rw[xl,if_pos (by omega)],hb⟩
  have d8:=zoY h8;clear Y O hz B;go_enter Tryz.func133,Tryz.ntmps133
  go_wp2;go_ret;exact Q.out _ (ze (zof _ _))
 have d8:=zoX h8;have HX:Hid (xl d.p es zs=zN d.p zs es 0):=by show xl d.p es zs=_;rw[xl,if_neg (by omega)]
 have HD:Hid (∀w' R,zN d.p zs es 0=R->Below w.heap.size w w'->qg d.p es zs w (.returned (.int .i64 R)) w'):=fun w' R h hb=>⟨by rw[HX.out,h],hb⟩
 obtain⟨P,ee⟩:∃P,e.a=P:=⟨_,rfl⟩;have HL:=hid Y;have Q:=hid O;have HZ:=hid hz;have HN:=hid B;have L:Hid (Below (w.heap.size+1) (w.alloc (JO d)) (w.alloc (JO d))):=zof _ _;rw[ee];have EE:=hid ee;clear Y O hz B HX ee;go_enter Tryz.func133,Tryz.ntmps133
 go_wp2;go_loopw [16,7,9,10] (fun q l _ _ wr=>∃k:Nat,∃left:Int,k<=e.n/\q=.int .i64 k/\l=.int .i64 left/\0<=left/\left<=k/\Hid (zN d.p zs es 0=zN d.p zs (es.drop k) left)/\Hid (Below (w.heap.size+1) (w.alloc (JO d)) wr)) (fun q _ _ _ _=>e.n-(intOf q).toNat)
 case atStart=>exact⟨0,0,zon _,rfl,rfl,Int.le_refl _,by simp,rfl,L⟩
 case round=>
  obtain⟨k,left,hk,rfl,rfl,a2,a1,b,hb⟩:=hrel;clear L;have E:Hid (Below w.heap.size w wr):=(ze (zof w.heap.size w)).trans (hb.out.mono (by omega))
  by_cases Z:k<e.n
  ·obtain⟨g,off,x,J,hx,⟨r0,_⟩,⟨r1,_⟩,⟨r2,_⟩,⟨r3,_⟩⟩:=zu (Q.out.step PushD.keeps E.out) Z;obtain rfl:P=some ⟨g,off,none⟩:=by rw[<-EE.out];exact J
   have a0:(k:Int)<(e.n:Int):=by omega
   have i:=zdD (p:=d.p) (zs:=zs) hx left;have s:=zgb hb.out;have bo:∀o,Below wr.heap.size wr (wr.alloc o):=fun o=>ze (zof _ _)
   have p0:∀o,(wr.alloc o).cell? ⟨w.heap.size,0,none⟩=some (.slice d.heads.a d.heads.n d.heads.c):=fun o=>za (s 0) (bo o)
   have p1:∀o,(wr.alloc o).cell? ⟨w.heap.size,1,none⟩=some (.slice d.mta.a d.mta.n d.mta.c):=fun o=>za (s 1) (bo o)
   have p2:∀o,(wr.alloc o).cell? ⟨w.heap.size,2,none⟩=some (.slice d.states.a d.states.n d.states.c):=fun o=>za (s 2) (bo o)
   have p3:∀o,(wr.alloc o).cell? ⟨w.heap.size,3,none⟩=some (.slice d.acts.a d.acts.n d.acts.c):=fun o=>za (s 3) (bo o)
   have p4:∀o,(wr.alloc o).cell? ⟨w.heap.size,4,none⟩=some (.slice d.tabs.a d.tabs.n d.tabs.c):=fun o=>za (s 4) (bo o)
   have p5:∀o,(wr.alloc o).cell? ⟨w.heap.size,5,none⟩=some (.slice d.nodes.a d.nodes.n d.nodes.c):=fun o=>za (s 5) (bo o)
   have p6:∀o,(wr.alloc o).cell? ⟨w.heap.size,6,none⟩=some (.slice d.out.a d.out.n d.out.c):=fun o=>za (s 6) (bo o)
   have j:Hid (∀w',Calls Tryz.prog 155 #[.int .i64 x.op] w' fun q U=>q=.returned (.int .i64 (yk x.op))/\U=w'):=fun w'=>zdE x.op w'
   have m:Hid (∀o,Calls Tryz.prog 87 #[d.v,.agg #[.int .i64 x.r.h,.int .i64 x.r.f],.slice M an V] (wr.alloc o) fun q w'=>q=.returned (.bool (d.p.width x.r zs !=0))/\Below (wr.alloc o).heap.size (wr.alloc o) w'):=fun o=>zbM d x.r M an V zs _ ((HL.out.step E.out).step (bo o)) ((HZ.out.step E.out).step (bo o))
   have y:Hid (∀o,Below (w.heap.size+1) (w.alloc (JO d)) (wr.alloc o)):=fun o=>hb.out.trans ((bo o).mono (by have:=hb.out.size;simpa using this))
   have t:Hid (∀D,Below wr.heap.size wr D->Below (w.heap.size+1) (w.alloc (JO d)) D):=fun D h=>hb.out.trans (h.mono (by have:=hb.out.size;simpa using this))
   have N:=hid bo;have hT:=zb4 x.op;clear s bo J;generalize yk x.op=T at*;by_cases F:T<0
   ·have f0:=zoY F;have C:Hid (zN d.p zs es 0=13):=by show zN d.p zs es 0=13;rw[b.out,i,if_pos (.inl F)]
    clear i m t y b;go_wp2_with fail
    refine(j.out _).mono ?_;rintro q D ⟨rfl,rfl⟩;clear j;go_wp2;go_ret;exact HD.out _ _ C.out (zh E.out (N.out _))
   have f0:=zoX F;by_cases G:left<T
   ·have f1:=zoY G;have C:Hid (zN d.p zs es 0=13):=by show zN d.p zs es 0=13;rw[b.out,i,if_pos (.inr G)]
    clear i m t y b;go_wp2_with fail
    refine(j.out _).mono ?_;rintro q D ⟨rfl,rfl⟩;clear j;go_wp2;go_ret;exact HD.out _ _ C.out (zh E.out (N.out _))
   have f1:=zoX G;rw[if_neg (show¬(T<0\/left<T)by omega)]at i
   by_cases I:x.op=2
   ·have b2:(x.op==2)=true:=by simpa using I
    by_cases u:d.p.width x.r zs=0
    ·have C:Hid (zN d.p zs es 0=1):=by show zN d.p zs es 0=1;rw[b.out,i,if_pos ⟨I,u⟩]
     rw[u]at m;clear i t y b I u;go_wp2_with fail
     refine(j.out _).mono ?_;rintro q D ⟨rfl,rfl⟩;clear j;go_wp2_with fail
     refine(m.out _).mono ?_;rintro q D ⟨rfl,A⟩;have H:=hid (zh (zh E.out (N.out _)) A);clear m A;go_wp2;go_ret;exact HD.out _ _ C.out H.out
    ·have W:Hid (zN d.p zs es 0=zN d.p zs (es.drop (k+1)) (left+(1-T))):=by show zN d.p zs es 0=_;rw[b.out,i,if_neg (fun h=>u h.2)]
     have K:(d.p.width x.r zs !=0)=true:=by simpa using u
     rw[K]at m;clear i y b I u K;go_wp2_with fail
     refine(j.out _).mono ?_;rintro q D ⟨rfl,rfl⟩;clear j;go_wp2_with fail
     refine(m.out _).mono ?_;rintro q D ⟨rfl,A⟩;have H:=hid (t.out _ (zh (N.out _) A));clear m A t p0 p1 p2 p3 p4 p5 p6 r0 r1 r2 r3;go_wp2;go_roundw
     case rel=>exact⟨k+1,left+(1-T),by omega,by go_num,by go_num,by omega,by omega,W,H⟩
     case measure=>simp[intOf];omega
   ·have b2:(x.op==2)=false:=by simpa using I
    have W:Hid (zN d.p zs es 0=zN d.p zs (es.drop (k+1)) (left+(1-T))):=by show zN d.p zs es 0=_;rw[b.out,i,if_neg (fun h=>I h.1)]
    clear i m t b I;go_wp2_with fail
    refine(j.out _).mono ?_;rintro q D ⟨rfl,rfl⟩;clear j;go_wp2;go_roundw
    case rel=>exact⟨k+1,left+(1-T),by omega,by go_num,by go_num,by omega,by omega,W,y.out _⟩
    case measure=>simp[intOf];omega
  ·have S:k=e.n:=by omega
   have C:Hid (zN d.p zs es 0=if left≠1 then 13 else 0):=by
    show zN d.p zs es 0=_;rw[b.out,S,<-HN.out,zoP];rfl
   clear b hb;by_cases X:left=1
   ·subst X;subst S;rw[if_neg (by simp)]at C
    go_wp2;go_ret;exact HD.out _ _ C.out E.out
   ·rw[if_pos X]at C;have b1:(left !=1)=true:=by simpa using X
    subst S;go_wp2;go_ret;exact HD.out _ _ C.out E.out
end Go.Proofs.YtbmcgbmegcpgnaaGreat
