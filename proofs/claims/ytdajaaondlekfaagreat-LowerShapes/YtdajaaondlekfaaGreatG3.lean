import Derived.Test.YtdajaaondlekfaaGreatVGBare
set_option maxHeartbeats 4000000
set_option maxRecDepth 20000
set_option linter.unusedSimpArgs false
namespace Go.Proofs.YtdajaaondlekfaaGreat
open Go.RowKit
structure PBox (d : ProgD) (w : World) (b : Nat) : Prop where
 c0 : w.cell? ⟨b, 0, none⟩ = some (.int .i64 d.slots)
 c1 : w.cell? ⟨b, 1, none⟩ = some (.slice d.tabs.a d.tabs.n d.tabs.c)
 c2 : w.cell? ⟨b, 2, none⟩ = some (.slice d.code.a d.code.n d.code.c)
theorem PBox.step{d:ProgD}{w w':World}{b:Nat}(h:PBox d w b)(k:Below w.heap.size w w'):PBox d w' b:=⟨za h.c0 k,za h.c1 k,za h.c2 k⟩
theorem za7(d:ProgD)(w:World):PBox d (w.alloc (.cells #[.int .i64 d.slots,.slice d.tabs.a d.tabs.n d.tabs.c,.slice d.code.a d.code.n d.code.c] 44)) w.heap.size:=⟨by simp,by simp,by simp⟩
structure IBox (x : InsD) (w : World) (b : Nat) : Prop where
 c0 : w.cell? ⟨b, 0, none⟩ = some (.int .i64 x.op)
 c1 : w.cell? ⟨b, 1, none⟩ = some (.int .i64 x.r)
 c2 : w.cell? ⟨b, 2, none⟩ = some (.int .i64 x.s)
 c3 : w.cell? ⟨b, 3, none⟩ = some (.int .i64 x.k)
 c4 : w.cell? ⟨b, 4, none⟩ = some (.int .i64 x.to)
 c5 : w.cell? ⟨b, 5, none⟩ = some (.int .u64 x.n)
theorem IBox.step{x:InsD}{w w':World}{b:Nat}(h:IBox x w b)(k:Below w.heap.size w w'):IBox x w' b:=⟨za h.c0 k,za h.c1 k,za h.c2 k,za h.c3 k,za h.c4 k,za h.c5 k⟩
theorem ji(x:InsD)(w:World):IBox x (w.alloc (.cells #[.int .i64 x.op,.int .i64 x.r,.int .i64 x.s,.int .i64 x.k,.int .i64 x.to,.int .u64 x.n] 126)) w.heap.size:=⟨by simp,by simp,by simp,by simp,by simp,by simp⟩
theorem xE(n:Int)(h0: -9223372036854775808<=n)(h:n<9223372036854775808):IntKind.i64.wrap n=n:=by
 simp[IntKind.wrap,IntKind.bits,IntKind.signed];omega
theorem xF(n:Int)(h0:0<=n)(h:n<18446744073709551616):IntKind.u64.wrap n=n:=by
 simp[IntKind.wrap,IntKind.bits,IntKind.signed];omega
def zju(d:ProgD):Prop:=0<=d.slots/\d.slots<=96/\d.tabs.n<=5/\1<=d.code.n/\d.code.n<=60000/\∀t∈d.ts,1<=t.keys/\t.keys<=3/\0<=t.args/\t.args<=3
theorem zhJ(d:ProgD)(x:InsD)(w:World)(H:d.lie w)(hs:zju d)(J:x.wf):Calls Tryz.prog 164 #[d.v,x.v] w (zw (zeC d.slots d.ts x) w):=by
 obtain⟨slots,tabs,ts,code,cs⟩:=d;obtain⟨op,r,s,k,to,n⟩:=x;obtain⟨m,u,o,q,B,f⟩:=hs;dsimp only at m u o q B f;have y:=bounds_u64 J.2.2.2.2.2;dsimp only at y;obtain⟨i,hi⟩:∃i:Nat,n=(i:Int):=⟨n.toNat,by omega⟩
 subst hi;have F:=hid (fun n a b w=>zar n a b w)
 have C:=H.t;have G:ts.length=tabs.n:=C.1;have W:IntKind.u64.wrap (tabs.n:Int)=(tabs.n:Int):=xF _ (by omega) (by omega)
 have j:Below w.heap.size w ((w.alloc (.cells #[.int .i64 slots,.slice tabs.a tabs.n tabs.c,.slice code.a code.n code.c] 44)).alloc (.cells #[.int .i64 op,.int .i64 r,.int .i64 s,.int .i64 k,.int .i64 to,.int .u64 (i:Int)] 126)):=ze (ze (zof _ _));unfold zeC;rw[zov];dsimp only[ProgD.v,InsD.v];by_cases l:i<tabs.n
 ·obtain⟨g,off,t,ha,I,h0,M,h2⟩:=zV C l;dsimp only at ha;rw[I];dsimp only;obtain⟨S,tn,X⟩:=tabs;dsimp only at ha l C G W j ⊢;subst ha;have R:¬(tn:Int)<=(i:Int):=by omega
  have Q:(i:Int)<(tn:Int):=by omega
  have c0:=za h0.1 j;have c1:=za M.1 j;have c2:=za h2.1 j;have L:=f t (zol I);obtain⟨tk,S,K⟩:=t;dsimp only at c0 c1 c2 L ⊢;have V:=xE (slots-tk) (by omega) (by omega)
  have T:=xE (slots-K) (by omega) (by omega)
  have E:Hid (∀w',Below w.heap.size w w'->zw (inB s 0 (slots-tk)&&inB k 0 (slots-K)) w (.returned (.bool (inB s 0 (slots-tk)&&inB k 0 (slots-K)))) w'):=fun w' h=>⟨rfl,h⟩
  have D:=hid j;clear C G H J m u o q B f y I h0 M h2 j L;generalize N:inB s 0 (slots-tk)=A at*;have P:=hid N;clear N;cases A
  ·rw[Bool.false_and]at E ⊢;go_enter Tryz.func164,Tryz.ntmps164
   go_wp2_with fail
   refine(F.out _ _ _ _).mono ?_;rintro e O ⟨rfl,rfl⟩;rw[P.out];go_wp2;go_ret;exact E.out _ (ze D.out)
  ·rw[Bool.true_and]at E ⊢;go_enter Tryz.func164,Tryz.ntmps164
   go_wp2_with fail
   refine(F.out _ _ _ _).mono ?_;rintro e O ⟨rfl,rfl⟩;rw[P.out];go_wp2_with fail
   refine(F.out _ _ _ _).mono ?_;rintro e O ⟨rfl,rfl⟩;go_wp2;go_ret;exact E.out _ (ze D.out)
 ·have U:(tabs.n:Int)<=(i:Int):=by omega
  rw[List.getElem?_eq_none (by omega)]
  dsimp only;have D:=hid j;clear C G H J m u o q B f y j l;go_enter Tryz.func164,Tryz.ntmps164
  go_wp2;go_ret;exact⟨rfl,D.out⟩
theorem znp(d:ProgD)(x:InsD)(w:World)(D:d.lie w)(hs:zju d)(G:x.wf):Calls Tryz.prog 125 #[d.v,x.v] w (zw (jg d.slots d.ts x) w):=by
 have j:=hid (fun n a b w=>zar n a b w)
 have HC:Hid (∀w',Below w.heap.size w w'->Calls Tryz.prog 164 #[d.v,x.v] w' (zw (zeC d.slots d.ts x) w')):=fun w' h=>zhJ d x w' (D.step h) hs G
 obtain⟨slots,tabs,ts,code,cs⟩:=d;obtain⟨op,r,s,k,to,n⟩:=x;obtain⟨m,o,-⟩:=hs;dsimp only[ProgD.v,InsD.v]at m o HC ⊢;have P:IntKind.u64.wrap slots=slots:=xF _ (by omega) (by omega)
 have f:Hid (Below w.heap.size w ((w.alloc (.cells #[.int .i64 slots,.slice tabs.a tabs.n tabs.c,.slice code.a code.n code.c] 44)).alloc (.cells #[.int .i64 op,.int .i64 r,.int .i64 s,.int .i64 k,.int .i64 to,.int .u64 n] 126))):=ze (ze (zof _ _));have g:Hid (∀b w',b=jg slots ts ⟨op,r,s,k,to,n⟩->Below w.heap.size w w'->zw (jg slots ts ⟨op,r,s,k,to,n⟩) w (.returned (.bool b)) w'):=fun b w' e h=>⟨by rw[e],h⟩
 clear D G m o;by_cases q3:op=3
 ·subst q3;clear HC;go_enter Tryz.func125,Tryz.ntmps125
  go_wp2_with fail
  refine(j.out _ _ _ _).mono ?_;rintro e q ⟨rfl,rfl⟩;go_wp2;go_ret;exact g.out _ _ rfl f.out
 have J:(op==3)=false:=by simpa using q3
 by_cases q6:op=6
 ·subst q6;clear HC;have H:jg slots ts ⟨6,r,s,k,to,n⟩=(inB k 1 8&&decide (n<=600)):=rfl;rw[H]at g ⊢;generalize C:inB k 1 8=A at*;have E:=hid C;clear C H J q3;cases A
  ·go_enter Tryz.func125,Tryz.ntmps125
   go_wp2_with fail
   refine(j.out _ _ _ _).mono ?_;rintro e q ⟨rfl,rfl⟩;rw[E.out];go_wp2;go_ret;exact g.out _ _ rfl f.out
  ·go_enter Tryz.func125,Tryz.ntmps125
   go_wp2_with fail
   refine(j.out _ _ _ _).mono ?_;rintro e q ⟨rfl,rfl⟩;rw[E.out];go_wp2;go_ret;exact g.out _ _ (by rw[Bool.true_and]) f.out
 have N:(op==6)=false:=by simpa using q6
 by_cases i:op=14
 ·subst i;clear HC;go_enter Tryz.func125,Tryz.ntmps125
  go_wp2_with fail
  refine(j.out _ _ _ _).mono ?_;rintro e q ⟨rfl,rfl⟩;go_wp2;go_ret;exact g.out _ _ rfl f.out
 have I:(op==14)=false:=by simpa using i
 by_cases t:op=9
 ·subst t;clear HC j;go_enter Tryz.func125,Tryz.ntmps125
  go_wp2;go_ret;exact g.out _ _ rfl f.out
 have O:(op==9)=false:=by simpa using t
 by_cases q7:op=7
 ·subst q7;clear HC j;go_enter Tryz.func125,Tryz.ntmps125
  go_wp2;go_ret;exact g.out _ _ rfl f.out
 have Q:(op==7)=false:=by simpa using q7
 by_cases u:op=8
 ·subst u;clear HC j;go_enter Tryz.func125,Tryz.ntmps125
  go_wp2;go_ret;exact g.out _ _ rfl f.out
 have M:(op==8)=false:=by simpa using u
 by_cases l:op=13
 ·subst l;clear j;go_enter Tryz.func125,Tryz.ntmps125
  go_wp2_with fail
  refine(HC.out _ f.out).mono ?_;rintro e q ⟨rfl,B⟩;have y:=hid (zh f.out B);clear B f HC;go_wp2;go_ret;exact g.out _ _ rfl y.out
 have L:(op==13)=false:=by simpa using l
 have F:jg slots ts ⟨op,r,s,k,to,n⟩=true:=by
  unfold jg;dsimp only;rw[if_neg q3,if_neg q6,if_neg i,if_neg t,if_neg (by omega),if_neg l]
 have K:=hid F.symm;clear HC j q3 q6 i t q7 u l F;go_enter Tryz.func125,Tryz.ntmps125
 go_wp2;go_ret;exact g.out _ _ K.out f.out
theorem znq(op:Int):(bits .and .i64 (zQ op) 8 !=0)=ym op:=by
 unfold ym;rcases zct op with h|h|h|h|h|h|h|h|h|h<;>rw[h]<;>rfl
theorem zhK(d:ProgD)(i:Nat)(w:World)(P:d.lie w)(hs:zju d)(hi:i<d.code.n)(x:InsD)(Y:d.cs[i]?=some x):Calls Tryz.prog 86 #[d.v,.int .i64 (i:Int)] w fun e w'=>e=.returned (.int .i64 (qt d.slots d.ts d.code.n i x))/\Below w.heap.size w w':=by
 obtain⟨g,off,y,ha,T,h0,O,h2,L,M,S⟩:=zV P.c hi;rw[Y]at T;obtain rfl:=zoq T;have u:x.wf:=⟨h0.2,O.2,h2.2,L.2,M.2,S.2⟩;have D:Hid (∀w',Below w.heap.size w w'->Calls Tryz.prog 124 #[x.v] w' (zw (zaA x) w')):=fun w' _=>zno x w'
 have R:Hid (∀w',Below w.heap.size w w'->Calls Tryz.prog 125 #[d.v,x.v] w' (zw (jg d.slots d.ts x) w')):=fun w' h=>znp d x w' (P.step h) hs u
 have HN:=hid (fun n w=>kq n w)
 have a2:(i:Int)<(d.code.n:Int):=by omega
 have H:=hs.2.2.2.2.1;have a1:=xE ((d.code.n:Int)-1) (by omega) (by omega)
 have a0:=xE ((d.code.n:Int)-1-(i:Int)) (by omega) (by omega)
 have o:Below w.heap.size w (w.alloc (.cells #[.int .i64 d.slots,.slice d.tabs.a d.tabs.n d.tabs.c,.slice d.code.a d.code.n d.code.c] 44)):=ze (zof _ _);have I:Below w.heap.size w ((w.alloc (.cells #[.int .i64 d.slots,.slice d.tabs.a d.tabs.n d.tabs.c,.slice d.code.a d.code.n d.code.c] 44)).alloc (.cells #[.int .i64 x.op,.int .i64 x.r,.int .i64 x.s,.int .i64 x.k,.int .i64 x.to,.int .u64 x.n] 126)):=ze o;obtain⟨A,hW2⟩:∃A,A=((w.alloc (.cells #[.int .i64 d.slots,.slice d.tabs.a d.tabs.n d.tabs.c,.slice d.code.a d.code.n d.code.c] 44)).alloc (.cells #[.int .i64 x.op,.int .i64 x.r,.int .i64 x.s,.int .i64 x.k,.int .i64 x.to,.int .u64 x.n] 126)):=⟨_,rfl⟩;obtain⟨pb,hpb⟩:∃b,b=w.heap.size:=⟨_,rfl⟩;obtain⟨ib,hib⟩:∃b,b=w.heap.size+1:=⟨_,rfl⟩;have PB:Hid (PBox d A pb):=by rw[hW2,hpb];exact(za7 d w).step (ze (zof _ _))
 have Q:Hid (IBox x A ib):=by
  show IBox x A ib;rw[hW2,hib];have:=ji x (w.alloc (.cells #[.int .i64 d.slots,.slice d.tabs.a d.tabs.n d.tabs.c,.slice d.code.a d.code.n d.code.c] 44));simpa using this
 have e0:=za h0.1 o;have e1:=za O.1 o;have e2:=za h2.1 o;have e3:=za L.1 o;have e4:=za M.1 o;have e5:=za S.1 o;rw[<-hW2]at I;have t:=hid I;have U:=hid hW2;have EP:=hid hpb;have X:=hid hib;have C:Hid (∀c w',c=qt d.slots d.ts d.code.n i x->Below w.heap.size w w'->Ending.returned (.int .i64 c)=.returned (.int .i64 (qt d.slots d.ts d.code.n i x))/\Below w.heap.size w w'):=fun c w' e h=>⟨by rw[e],h⟩
 obtain⟨F,hF⟩:∃F,zaA x=F:=⟨_,rfl⟩;obtain⟨G,hG⟩:∃G,jg d.slots d.ts x=G:=⟨_,rfl⟩;have f:Hid (qt d.slots d.ts d.code.n i x=if(F&&G)=false then 4 else if(ym x.op&&decide ((d.code.n:Int)-1-i<=x.to))=true then 17 else 0):=by
  show _=_;unfold qt;rw[hF,hG]
 rw[hF]at D;rw[hG]at R;have N:=hid (znq x.op);obtain⟨J,xr,xs,xk,K,xn⟩:=x;dsimp only[ProgD.v,InsD.v]at*;obtain⟨cn,hcn⟩:∃n,n=d.code.n:=⟨_,rfl⟩;obtain⟨cc,hcc⟩:∃n,n=d.code.c:=⟨_,rfl⟩;have W:Hid (∀w',PBox d w' pb->w'.cell? ⟨pb,0,none⟩=some (.int .i64 d.slots)/\w'.cell? ⟨pb,1,none⟩=some (.slice d.tabs.a d.tabs.n d.tabs.c)/\w'.cell? ⟨pb,2,none⟩=some (.slice (some ⟨g,off,none⟩) d.code.n d.code.c)):=fun w' h=>⟨h.c0,h.c1,by rw[<-ha];exact h.c2⟩
 rw[ha]at*;clear ha h0 O h2 L M S T P hs hi Y u o I hW2 hpb hib hF hG hcn hcc H;clear cn cc;cases F with
 |false=>
  rw[Bool.false_and,if_pos rfl]at f;go_enter Tryz.func86,Tryz.ntmps86
  go_wp2_with fail
  rw[<-U.out];refine(D.out _ t.out).mono ?_;rintro e w3 ⟨rfl,l⟩;have j:=hid (zh t.out l);clear l;go_wp2;go_ret;exact C.out _ _ f.out.symm j.out
 |true=>
  rw[Bool.true_and]at f;go_enter Tryz.func86,Tryz.ntmps86
  go_wp2_with fail
  rw[<-U.out,<-X.out,<-EP.out];refine(D.out _ t.out).mono ?_;rintro e w3 ⟨rfl,l⟩;obtain⟨p0,p1,p2⟩:=W.out _ (PB.out.step l);obtain⟨i0,i1,i2,i3,i4,i5⟩:=Q.out.step l;have j:=hid (zh t.out l);have B:=hid (PB.out.step l);have q:=hid (Q.out.step l);clear l U EP X e0 e1 e2 e3 e4 e5 D PB Q t;go_wp2_with fail
  refine(R.out _ j.out).mono ?_;rintro e w4 ⟨rfl,E⟩;obtain⟨p0,p1,p2⟩:=W.out _ (B.out.step E);obtain⟨i0,i1,i2,i3,i4,i5⟩:=q.out.step E;have m:=hid (zh j.out E);clear E B q R j;cases G with
  |false=>
   rw[if_pos rfl]at f;go_wp2;go_ret;exact C.out _ _ f.out.symm m.out
  |true=>
   rw[if_neg (by decide)]at f
   go_wp2_with fail
   refine(HN.out _ _).mono ?_;rintro e w5 ⟨rfl,rfl⟩;have k8:=N.out;generalize ym J=Z at*;cases Z with
   |false=>
    rw[Bool.false_and,if_neg (by decide)]at f
    go_wp2;go_ret;exact C.out _ _ f.out.symm m.out
   |true=>
    rw[Bool.true_and]at f;by_cases V:(d.code.n:Int)-1-(i:Int)<=K
    ·rw[if_pos (by simpa using V)]at f
     go_wp2;go_ret;exact C.out _ _ f.out.symm m.out
    ·rw[if_neg (by simpa using V)]at f
     go_wp2;go_ret;exact C.out _ _ f.out.symm m.out
def za6(f:Int × Int)(w:World)(e:Ending)(w':World):Prop:=e=.returned (.agg #[.int .i64 f.1,.int .i64 f.2])/\Below w.heap.size w w'
theorem zbX(ts:List ShapeD):∀(j:Nat) (i:Int),(∀k t,k<j->ts[k]?=some t->xS t=true)->xp ts i=xp (ts.drop j) (i+j):=by
 induction ts with
 |nil=>intro j i _;simp[xp]
 |cons t r ih=>
  intro j i h;cases j with
  |zero=>simp
  |succ j=>
   have h0:=h 0 t (by omega) rfl
   rw[xp,if_pos h0,ih j (i+1) (fun k u b a=>h (k+1) u (by omega) (by simpa using a)),zoU]
   congr 1
   omega
theorem zfI{ts:List ShapeD}{j:Nat}{t:ShapeD}(h:∀k t,k<j->ts[k]?=some t->xS t=true)(a:ts[j]?=some t)(hb:xS t=false):xp ts 0=(1,-2-(j:Int)):=by
 obtain⟨b,e⟩:=zok.1 a;rw[zbX ts j 0 h,zoM b,e,xp,hb,if_neg (by decide)]
 congr 1
 omega
theorem zeA{ts:List ShapeD}(h:∀k t,k<ts.length->ts[k]?=some t->xS t=true):xp ts 0=(0,0):=by
 rw[zbX ts ts.length 0 h,zoP,xp]
theorem zdm(slots:Int)(ts:List ShapeD)(m:Int)(cs:List InsD):∀(j:Nat) (i:Int),(∀(k:Nat) t,k<j->cs[k]?=some t->qt slots ts m (i+k) t=0)->kG slots ts m cs i=kG slots ts m (cs.drop j) (i+j):=by
 induction cs with
 |nil=>intro j i _;simp[kG]
 |cons t r ih=>
  intro j i h;cases j with
  |zero=>simp
  |succ j=>
   have h0:qt slots ts m i t=0:=by have:=h 0 t (by omega) rfl;simpa using this
   rw[kG,if_pos h0,ih j (i+1) (fun k u b a=>by
    have:=h (k+1) u (by omega) (by simpa using a)
    rw[<-this];congr 1
    omega),zoU]
   congr 1
   omega
theorem zjr{slots:Int}{ts:List ShapeD}{m:Int}{cs:List InsD}{j:Nat}{t:InsD}(h:∀(k:Nat) t,k<j->cs[k]?=some t->qt slots ts m k t=0)(a:cs[j]?=some t)(hb:qt slots ts m j t≠0):kG slots ts m cs 0=(qt slots ts m j t,(j:Int)):=by
 obtain⟨b,e⟩:=zok.1 a;rw[zdm slots ts m cs j 0 (fun k t c a=>by rw[Int.zero_add];exact h k t c a),zoM b,e,kG,Int.zero_add,if_neg hb]
theorem zhI{slots:Int}{ts:List ShapeD}{m:Int}{cs:List InsD}(h:∀(k:Nat) t,k<cs.length->cs[k]?=some t->qt slots ts m k t=0):kG slots ts m cs 0=(0,0):=by
 rw[zdm slots ts m cs cs.length 0 (fun k t b a=>by rw[Int.zero_add];exact h k t b a),zoP,kG]
theorem inB_iff{n a b:Int}:inB n a b=true↔a<=n/\n<=b:=by simp[inB]
theorem zfJ:∀{ts:List ShapeD} {i:Int},(xp ts i).1=0->∀t∈ts,xS t=true:=by
 intro ts;induction ts with
 |nil=>intro i _ t a;simp at a
 |cons x r ih=>
  intro i h t a;rw[xp]at h;by_cases b:xS x=true
  ·rw[if_pos b]at h;rcases zoD.1 a with rfl|a
   ·exact b
   ·exact ih h t a
  ·rw[if_neg b]at h;simp at h
theorem zjs{d:ProgD}(g:d.ts.length=d.tabs.n)(h2:d.cs.length=d.code.n)(h:(yS d.slots d.ts d.cs.length).1=0):zju d:=by
 unfold yS at h;by_cases c:inB d.slots 0 96=false
 ·rw[if_pos c]at h;exact absurd h (by decide)
 ·rw[if_neg c]at h;have a:=inB_iff.1 (by simpa using c)
  by_cases b:(decide (5<(d.ts.length:Int))||!inB d.cs.length 1 60000)=true
  ·rw[if_pos b]at h;exact absurd h (by decide)
  ·rw[if_neg b]at h;simp only[Bool.or_eq_true,decide_eq_true_eq,Bool.not_eq_true',not_or,Bool.not_eq_false]at b;have f:=inB_iff.1 b.2;refine⟨a.1,a.2,by omega,by omega,by omega,fun t e=>?_⟩
   have:=zfJ h t e;unfold xS at this;simp only[Bool.and_eq_true,inB_iff]at this;exact⟨this.1.1.1,this.1.1.2,this.2.1,this.2.2⟩
theorem zeB(d:ProgD)(w:World)(D:d.lie w)(hm:d.small):Calls Tryz.prog 85 #[d.v] w (za6 (yS d.slots d.ts d.cs.length) w):=by
 have B:=hid (fun n a b w=>zar n a b w)
 have S:=hid (fun d w=>zjw d w)
 have L:d.ts.length=d.tabs.n:=D.t.1;have h2:d.cs.length=d.code.n:=D.c.1;obtain⟨a4,W⟩:=hm;have s:Hid (∀c a w',(c,a)=yS d.slots d.ts d.cs.length->Below w.heap.size w w'->za6 (yS d.slots d.ts d.cs.length) w (.returned (.agg #[.int .i64 c,.int .i64 a])) w'):=fun c a w' e h=>⟨by rw[<-e],h⟩
 have I:Hid (Below w.heap.size w ((w.alloc (.cells #[.int .i64 d.slots,.slice d.tabs.a d.tabs.n d.tabs.c,.slice d.code.a d.code.n d.code.c] 44)).alloc (.cells #[.int .i64 0,.int .i64 0] 34))):=ze (ze (zof _ _));by_cases l:inB d.slots 0 96=false
 ·have E:Hid ((1,-1)=yS d.slots d.ts d.cs.length):=by show _=_;unfold yS;rw[if_pos l]
  have H:=hid l;have C:=hid (fun w' h=>s.out 1 (-1) w' E.out h)
  clear l D L h2 s E S;go_enter Tryz.func85,Tryz.ntmps85
  go_wp2_with fail
  refine(B.out _ _ _ _).mono ?_;rintro e N ⟨rfl,rfl⟩;rw[H.out];go_wp2;exact bodyPost_ret (v:=.agg #[.int .i64 1,.int .i64 (-1)]) (by simp[results,Tryz.results85,go_sem, *]) rfl (C.out _ (by first|exact I.out|exact(ze (ze (zof _ _)))))
 have y:inB d.slots 0 96=true:=by simpa using l
 have H:=hid y;by_cases X:5<d.ts.length
 ·have E:Hid ((2,-1)=yS d.slots d.ts d.cs.length):=by show _=_;unfold yS;rw[if_neg l,zoY (by omega),Bool.true_or,if_pos rfl]
  have h5:(5:Int)<(d.tabs.n:Int):=by omega
  have C:=hid (fun w' h=>s.out 2 (-1) w' E.out h)
  clear l y X D L h2 s E S;go_enter Tryz.func85,Tryz.ntmps85
  go_wp2_with fail
  refine(B.out _ _ _ _).mono ?_;rintro e N ⟨rfl,rfl⟩;rw[H.out];go_wp2;exact bodyPost_ret (v:=.agg #[.int .i64 2,.int .i64 (-1)]) (by simp[results,Tryz.results85,go_sem, *]) rfl (C.out _ (ze (ze (zof _ _))))
 have h5:¬(5:Int)<(d.tabs.n:Int):=by omega
 by_cases O:inB d.code.n 1 60000=false
 ·have E:Hid ((2,-1)=yS d.slots d.ts d.cs.length):=by show _=_;unfold yS;rw[if_neg l,h2,O,Bool.not_false,Bool.or_true,if_pos rfl]
  have C:=hid (fun w' h=>s.out 2 (-1) w' E.out h)
  have P:=hid O;clear l y X O D L h2 s E S;go_enter Tryz.func85,Tryz.ntmps85
  go_wp2_with fail
  refine(B.out _ _ _ _).mono ?_;rintro e N ⟨rfl,rfl⟩;rw[H.out];go_wp2_with fail
  refine(B.out _ _ _ _).mono ?_;rintro e N ⟨rfl,rfl⟩;rw[P.out];go_wp2;exact bodyPost_ret (v:=.agg #[.int .i64 2,.int .i64 (-1)]) (by simp[results,Tryz.results85,go_sem, *]) rfl (C.out _ (ze (ze (zof _ _))))
 have G:inB d.code.n 1 60000=true:=by simpa using O
 have P:=hid G;have ES:yS d.slots d.ts d.cs.length=xp d.ts 0:=by
  unfold yS;rw[if_neg l,h2,G,if_neg (by simp;omega)]
 rw[ES]at s ⊢;obtain⟨i,hW2⟩:∃i,i=((w.alloc (.cells #[.int .i64 d.slots,.slice d.tabs.a d.tabs.n d.tabs.c,.slice d.code.a d.code.n d.code.c] 44)).alloc (.cells #[.int .i64 0,.int .i64 0] 34)):=⟨_,rfl⟩;obtain⟨fb,hfb⟩:∃b,b=w.heap.size+1:=⟨_,rfl⟩;have FB:Hid (i.cell? ⟨fb,0,none⟩=some (.int .i64 0)/\i.cell? ⟨fb,1,none⟩=some (.int .i64 0)/\i.frozen? ⟨fb,0,none⟩=false/\i.frozen? ⟨fb,1,none⟩=false/\w.heap.size<=fb):=by
  show _/\_;rw[hW2,hfb];refine⟨by simp,by simp,by simp,by simp,by omega⟩
 rw[<-hW2]at I;have EW:=hid hW2;have EF:=hid hfb;have HL:=hid D;have a0:=hid L;have HM:=hid a4;clear l y X O G D L h2 ES hW2 hfb W;go_enter Tryz.func85,Tryz.ntmps85
 go_wp2_with fail
 refine(B.out _ _ _ _).mono ?_;rintro e N ⟨rfl,rfl⟩;rw[H.out];go_wp2_with fail
 refine(B.out _ _ _ _).mono ?_;rintro e N ⟨rfl,rfl⟩;rw[P.out];go_wp2;rw[<-EW.out,<-EF.out];clear EW H P B h5;go_loopw [27,3,4] (fun q _ _ wr=>∃k:Nat,k<=d.tabs.n/\q=.int .i64 k/\Hid (Below i.heap.size i wr)/\Hid (∀j t,j<k->d.ts[j]?=some t->xS t=true)) (fun q _ _ _=>d.tabs.n-(intOf q).toNat)
 case atStart=>exact⟨0,zon _,rfl,zof _ _,fun j t Y=>absurd Y (zoN _)⟩
 case round=>
  obtain⟨k,hk,rfl,hb,Z⟩:=hrel;by_cases U:k<d.tabs.n
  ·have a5:(k:Int)<(d.tabs.n:Int):=by omega
   obtain⟨g,o,t,ea,R,⟨x0,_⟩,⟨x1,_⟩,⟨x2,_⟩⟩:=zV ((HL.out.step I.out).t.step ShapeD.keeps hb.out) U;obtain⟨Q,hW3⟩:∃Q,Q=wr.alloc (.cells #[.int .i64 t.keys,.int .i64 t.acts,.int .i64 t.args] 41):=⟨_,rfl⟩;have b3:Below i.heap.size i Q:=by rw[hW3];exact ze hb.out
   have r:=hid b3;have x:=hid hW3;have M:=hid R;have f:=hid (S.out t Q);dsimp only[ShapeD.v]at f;rw[ea];clear R b3 hW3;cases m:xS t with
   |false=>
    have C:=hid (s.out 1 (-2-(k:Int)));have EX:Hid ((1,-2-(k:Int))=xp d.ts 0):=(zfI Z.out M.out m).symm;rw[m]at f;have a6:=xE (-2-(k:Int)) (by omega) (by omega)
    go_wp2_with fail
    rw[<-x.out];refine f.out.mono ?_;rintro e w4 ⟨rfl,J⟩;have A:=hid (zh r.out J);obtain⟨f0,f1,f2,K,F⟩:=FB.out;have y0:=za f0 A.out;have y1:=za f1 A.out;have y2:=(A.out.frozen (p:=⟨fb,0,none⟩) (zog _ _ f0)).trans f2;have y3:=(A.out.frozen (p:=⟨fb,1,none⟩) (zog _ _ f1)).trans K;have yl:fb<w4.heap.size:=zog _ _ y0;have V:Hid (Below w.heap.size w ((w4.setCell ⟨fb,0,none⟩ (.int .i64 1)).setCell ⟨fb,1,none⟩ (.int .i64 (-2-(k:Int))))):=((zh I.out A.out).setCell (p:=⟨fb,0,none⟩) F _).setCell (p:=⟨fb,1,none⟩) F _;clear f J A f0 f1 f2 K F r x x0 x1 x2 hb;go_wp2;exact bodyPost_ret (v:=.agg #[.int .i64 1,.int .i64 (-2-(k:Int))]) (by simp[results,Tryz.results85,go_sem, *]) rfl (C.out _ EX.out V.out)
   |true=>
    rw[m]at f;have T:Hid (∀j t,j<k+1->d.ts[j]?=some t->xS t=true):=fun j u Y hu=>by
     rcases Nat.lt_or_ge j k with h|h
     ·exact Z.out j u h hu
     ·obtain rfl:j=k:=by omega
      rw[M.out]at hu;cases hu
      exact m
    go_wp2_with fail
    rw[<-x.out];refine f.out.mono ?_;rintro e w4 ⟨rfl,J⟩;have A:=hid (zh r.out J);clear f J r x x0 x1 x2 hb;go_wp2;go_roundw
    case rel=>exact⟨k+1,by omega,by go_num,A,T⟩
    case measure=>simp[intOf];omega
  ·have a5:¬(k:Int)<(d.tabs.n:Int):=by omega
   have EX:Hid (((0:Int),(0:Int))=xp d.ts 0):=by
    refine(zeA fun j t Y R=>Z.out j t ?_ R).symm
    have:=a0.out;omega
   obtain⟨f0,f1,f2,K,F⟩:=FB.out;have y0:=za f0 hb.out;have y1:=za f1 hb.out;have y2:=(hb.out.frozen (p:=⟨fb,0,none⟩) (zog _ _ f0)).trans f2;have y3:=(hb.out.frozen (p:=⟨fb,1,none⟩) (zog _ _ f1)).trans K;have yl:fb<wr.heap.size:=zog _ _ y0;have V:Hid (Below w.heap.size w ((wr.setCell ⟨fb,0,none⟩ (.int .i64 0)).setCell ⟨fb,1,none⟩ (.int .i64 0))):=((zh I.out hb.out).setCell (p:=⟨fb,0,none⟩) F _).setCell (p:=⟨fb,1,none⟩) F _;clear f0 f1 f2 K F hb;go_wp2;exact bodyPost_ret (v:=.agg #[.int .i64 0,.int .i64 0]) (by simp[results,Tryz.results85,go_sem, *]) rfl (s.out 0 0 _ EX.out V.out)
theorem zjt(d:ProgD)(w:World)(M:d.lie w)(hm:d.small):Calls Tryz.prog 51 #[d.v] w (za6 (xJ d.slots d.ts d.cs) w):=by
 have h1:d.ts.length=d.tabs.n:=M.t.1;have h2:d.cs.length=d.code.n:=M.c.1;have Z:Hid (∀c a w',(c,a)=xJ d.slots d.ts d.cs->Below w.heap.size w w'->za6 (xJ d.slots d.ts d.cs) w (.returned (.agg #[.int .i64 c,.int .i64 a])) w'):=fun c a w' e h=>⟨by rw[<-e],h⟩
 obtain⟨i,hW2⟩:∃i,i=((w.alloc (.cells #[.int .i64 d.slots,.slice d.tabs.a d.tabs.n d.tabs.c,.slice d.code.a d.code.n d.code.c] 44)).alloc (.cells #[.int .i64 0,.int .i64 0] 34)):=⟨_,rfl⟩;obtain⟨pb,hpb⟩:∃b,b=w.heap.size:=⟨_,rfl⟩;obtain⟨fb,hfb⟩:∃b,b=w.heap.size+1:=⟨_,rfl⟩;have PB:Hid (PBox d i pb):=by rw[hW2,hpb];exact(za7 d w).step (ze (zof _ _))
 have FB:Hid (i.cell? ⟨fb,0,none⟩=some (.int .i64 0)/\i.cell? ⟨fb,1,none⟩=some (.int .i64 0)/\i.frozen? ⟨fb,0,none⟩=false/\i.frozen? ⟨fb,1,none⟩=false/\w.heap.size<=fb):=by
  show _/\_;rw[hW2,hfb];refine⟨by simp,by simp,by simp,by simp,by omega⟩
 have H:Hid (Below w.heap.size w i):=by rw[hW2];exact ze (ze (zof _ _))
 have s:=hid (zeB d i (M.step H.out) hm);have EW:=hid hW2;have EP:=hid hpb;have T:=hid hfb;have HL:=hid M;have r:=hid h2;have a1:=hid h1;dsimp only[ProgD.v]at s ⊢;obtain⟨c,hc⟩:∃c,c=(yS d.slots d.ts d.cs.length).1:=⟨_,rfl⟩;obtain⟨a,ha⟩:∃a,a=(yS d.slots d.ts d.cs.length).2:=⟨_,rfl⟩;have C:=hid hc;have X:=hid ha;clear hW2 hpb hfb M h1 h2 hc ha;by_cases V:c=0
 ·subst V;have F:Hid (zju d):=zjs a1.out r.out C.out.symm;go_enter Tryz.func51,Tryz.ntmps51
  go_wp2_with fail
  rw[<-EW.out,<-T.out,<-EP.out];refine s.out.mono ?_;rintro e O ⟨rfl,A⟩;rw[<-C.out,<-X.out];obtain⟨W4,hW4⟩:∃W4,W4=O.alloc (.cells #[.int .i64 0,.int .i64 a] 34):=⟨_,rfl⟩;have b4:Below i.heap.size i W4:=by rw[hW4];exact ze A
  have P:=hid hW4;have a3:=hid b4;obtain⟨p0,p1,K⟩:=PB.out.step (ze A:Below i.heap.size i (O.alloc (.cells #[.int .i64 0,.int .i64 a] 34)));clear s A hW4 EW T EP b4;go_wp2;rw[<-P.out];have N:Hid (d.code.n<=60000):=F.out.2.2.2.2.1;clear P p0 p1 K;go_loopw [16,4,5] (fun q _ _ wr=>∃k:Nat,k<=d.code.n/\q=.int .i64 k/\Hid (Below i.heap.size i wr)/\Hid (∀(j:Nat) x,j<k->d.cs[j]?=some x->qt d.slots d.ts d.code.n j x=0)) (fun q _ _ _=>d.code.n-(intOf q).toNat)
  case atStart=>exact⟨0,zon _,rfl,a3,fun j t hj=>absurd hj (zoN _)⟩
  case round=>
   obtain⟨k,hk,rfl,hb,U⟩:=hrel;have a6:(k:Int)<=60000:=by have:=N.out;omega
   obtain⟨p0,p1,K⟩:=PB.out.step hb.out;by_cases L:k<d.code.n
   ·have a4:(k:Int)<(d.code.n:Int):=by omega
    obtain⟨x,J⟩:∃x,d.cs[k]?=some x:=⟨_,zoh (by have:=r.out;omega)⟩
    have Y:=hid (zhK d k wr (HL.out.step (zh H.out hb.out)) F.out L x J);dsimp only[ProgD.v]at Y;have R:=hid J;clear J;obtain⟨cc,hcc⟩:∃cc,cc=qt d.slots d.ts d.code.n k x:=⟨_,rfl⟩;rw[<-hcc]at Y;have D:=hid hcc;clear hcc;go_wp2_with fail
    refine Y.out.mono ?_;rintro e w5 ⟨rfl,b5⟩;have E:=hid (zh hb.out b5);clear b5 Y hb p0 p1 K;by_cases f:cc=0
    ·have Q:(cc !=0)=false:=by simpa using f
     have a0:Hid (∀(j:Nat) x,j<k+1->d.cs[j]?=some x->qt d.slots d.ts d.code.n j x=0):=fun j u hj hu=>by
      rcases Nat.lt_or_ge j k with h|h
      ·exact U.out j u h hu
      ·obtain rfl:j=k:=by omega
       rw[R.out]at hu;cases hu
       rw[<-D.out];exact f
     clear f;go_wp2;go_roundw
     case rel=>exact⟨k+1,by omega,by go_num,E,a0⟩
     case measure=>simp[intOf];omega
    ·have Q:(cc !=0)=true:=by simpa using f
     have G:Hid ((cc,(k:Int))=xJ d.slots d.ts d.cs):=by
      have e1:=zjr (m:=(d.code.n:Int)) U.out R.out (by rw[<-D.out];exact f)
      show _=_;unfold xJ;rw[if_neg (by rw[<-C.out];exact fun h=>h rfl),r.out,e1,<-D.out,if_pos f]
     obtain⟨f0,f1,f2,B,y⟩:=FB.out;have y0:=za f0 E.out;have y1:=za f1 E.out;have y2:=(E.out.frozen (p:=⟨fb,0,none⟩) (zog _ _ f0)).trans f2;have y3:=(E.out.frozen (p:=⟨fb,1,none⟩) (zog _ _ f1)).trans B;have yl:fb<w5.heap.size:=zog _ _ y0;have I:Hid (Below w.heap.size w ((w5.setCell ⟨fb,0,none⟩ (.int .i64 cc)).setCell ⟨fb,1,none⟩ (.int .i64 (k:Int)))):=((zh H.out E.out).setCell (p:=⟨fb,0,none⟩) y _).setCell (p:=⟨fb,1,none⟩) y _;clear f0 f1 f2 B y E f;go_wp2;exact bodyPost_ret (v:=.agg #[.int .i64 cc,.int .i64 (k:Int)]) (by simp[results,Tryz.results51,go_sem, *]) rfl (Z.out _ _ _ G.out I.out)
   ·have a4:¬(k:Int)<(d.code.n:Int):=by omega
    have a2:1<=d.code.n:=F.out.2.2.2.1;obtain⟨g,o,x,ea,J,⟨x0,_⟩,_⟩:=zV (HL.out.step (zh H.out hb.out)).c (show d.code.n-1<d.code.n by omega)
    have EI:Hid (kG d.slots d.ts d.code.n d.cs 0=(0,0)):=zhI fun j t hj ht=>U.out j t (by have:=r.out;omega) ht
    have S:=hid (zmi x.op wr);obtain⟨m,hmm⟩:∃m:Nat,d.code.n=m+1:=⟨d.code.n-1,by omega⟩
    have R:Hid (jh ((d.cs[d.cs.length-1]?.map InsD.op).getD 0)=jh x.op):=by
     show _=_;rw[r.out,J];rfl
    have l:Hid (xJ d.slots d.ts d.cs=if jh x.op=true then(0,0)else(18,(m:Int))):=by
     show _=_;unfold xJ;rw[if_neg (by rw[<-C.out];exact fun h=>h rfl),R.out,r.out,EI.out,if_neg (by decide),hmm]
     congr 2
     omega
    rw[hmm]at x0 K;rw[ea]at K;rw[show m+1-1=m from rfl]at x0
    have a8:(m:Int)<((m+1:Nat):Int):=by omega
    have a5:(m:Int)<=60000:=by have:=N.out;omega
    have a7:IntKind.i64.wrap (((m+1:Nat):Int)-1)=(m:Int):=by rw[xE _ (by omega) (by omega)];omega
    obtain⟨f0,f1,f2,B,y⟩:=FB.out;have y0:=za f0 hb.out;have y1:=za f1 hb.out;have y2:=(hb.out.frozen (p:=⟨fb,0,none⟩) (zog _ _ f0)).trans f2;have y3:=(hb.out.frozen (p:=⟨fb,1,none⟩) (zog _ _ f1)).trans B;have yl:fb<wr.heap.size:=zog _ _ y0;have I:Hid (∀u v,Below w.heap.size w ((wr.setCell ⟨fb,0,none⟩ u).setCell ⟨fb,1,none⟩ v)):=fun u v=>((zh H.out hb.out).setCell (p:=⟨fb,0,none⟩) y _).setCell (p:=⟨fb,1,none⟩) y _
    clear f0 f1 f2 B y hb U J ea EI R hmm a2 L hk;go_wp2_with fail
    refine S.out.mono ?_;rintro e w6 ⟨rfl,rfl⟩;clear S;cases W:jh x.op with
    |true=>
     rw[W,if_pos rfl]at l;have G:=hid l.out.symm;clear l W;go_wp2;exact bodyPost_ret (v:=.agg #[.int .i64 0,.int .i64 0]) (by simp[results,Tryz.results51,go_sem, *]) rfl (Z.out _ _ _ G.out (I.out _ _))
    |false=>
     rw[W,if_neg (by decide)]at l
     have G:=hid l.out.symm;clear l W;go_wp2;exact bodyPost_ret (v:=.agg #[.int .i64 18,.int .i64 (m:Int)]) (by simp[results,Tryz.results51,go_sem, *]) rfl (Z.out _ _ _ G.out (I.out _ _))
 ·have Q:(c !=0)=true:=by simpa using V
  have G:Hid ((c,a)=xJ d.slots d.ts d.cs):=by
   show _=_;unfold xJ;rw[if_pos (by rw[<-C.out];exact V),C.out,X.out]
  go_enter Tryz.func51,Tryz.ntmps51
  go_wp2_with fail
  rw[<-EW.out,<-T.out,<-EP.out];refine s.out.mono ?_;rintro e O ⟨rfl,A⟩;rw[<-C.out,<-X.out];obtain⟨f0,f1,f2,B,y⟩:=FB.out;have y0:=za f0 A;have y1:=za f1 A;have y2:=(A.frozen (p:=⟨fb,0,none⟩) (zog _ _ f0)).trans f2;have y3:=(A.frozen (p:=⟨fb,1,none⟩) (zog _ _ f1)).trans B;have yl:fb<O.heap.size:=zog _ _ y0;have I:Hid (∀u v o,Below w.heap.size w (((O.setCell ⟨fb,0,none⟩ u).setCell ⟨fb,1,none⟩ v).alloc o)):=fun u v o=>ze (((zh H.out A).setCell (p:=⟨fb,0,none⟩) y _).setCell (p:=⟨fb,1,none⟩) y _)
  clear f0 f1 f2 B y A s EW T EP V C X;go_wp2;exact bodyPost_ret (v:=.agg #[.int .i64 c,.int .i64 a]) (by simp[results,Tryz.results51,go_sem, *]) rfl (Z.out _ _ _ G.out (I.out _ _ _))
end Go.Proofs.YtdajaaondlekfaaGreat
