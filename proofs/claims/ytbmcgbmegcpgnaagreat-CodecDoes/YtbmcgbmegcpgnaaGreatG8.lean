import Derived.Test.YtbmcgbmegcpgnaaGreatG4
import Derived.Test.YtbmcgbmegcpgnaaGreatVQFirst
import Derived.Laws.EntriesVeiled
set_option maxHeartbeats 16000000
set_option maxRecDepth 20000
set_option linter.unusedSimpArgs false
namespace Go.Proofs.YtbmcgbmegcpgnaaGreat
open Go.RowKit
theorem zm2(d:PlanD)(n:Int)(w:World)(m:d.lie w):
 Calls Tryz.prog 142 #[d.v,.int .i64 n] w fun e w'=>e=.returned (.int .i64 (doC d.p n))/\Below w.heap.size w w':=by
 have b:d.p.al.length=d.acts.n:=by simp[PlanD.p,m.al.1]
 have l:∀o,Below w.heap.size w (w.alloc o):=fun o=>ze (zof _ _)
 have f:Hid (∀w',Calls Tryz.prog 160 #[.slice d.acts.a d.acts.n d.acts.c,.int .i64 n] w' fun e q=>e=.returned (.bool (decide (0<=n/\n<(d.acts.n:Int))))/\q=w'):=fun w'=>zh7 _ _ _ _ w'
 by_cases h:0<=n/\n<(d.acts.n:Int)
 ·obtain⟨k,rfl⟩:∃k:Nat,n=k:=⟨n.toNat,by omega⟩
  have u:k<d.acts.n:=by omega
  obtain⟨g,off,x,A,r,⟨c0,_⟩,_,j,_⟩:=zu m.al u;have s:doC d.p k=if 0<x.w.n then 2 else 0:=by
   unfold doC;rw[b,if_pos h,zov];have D:d.p.al.getD k ⟨[],[]⟩=x.p:=by
    simp only[PlanD.p,zoi,zoy,r];rfl
   rw[D];show(if 0<x.ws.length then 2 else 0)=_
   rw[j.1]
  have E:∀o,(w.alloc o).cell? ⟨g,off+k*2,none⟩=some (.slice x.w.a x.w.n x.w.c):=fun o=>za c0 (l o)
  rw[zoY h]at f;have C:(k:Int)<(d.acts.n:Int):=by omega
  have i:=hid s;rw[A]at f;clear m r c0 j s b h;by_cases hz:0<x.w.n
  ·have B:=zoY hz;have y:decide ((0:Int)<(x.w.n:Int))=true:=zoY (by omega)
   rw[if_pos hz]at i;go_enter Tryz.func142,Tryz.ntmps142
   go_wp2_with fail
   refine(f.out _).mono ?_;rintro e t ⟨rfl,rfl⟩;clear f;go_wp2;go_ret;exact⟨by rw[i.out];rfl,l _⟩
  ·have B:=zoX hz;have y:decide ((0:Int)<(x.w.n:Int))=false:=zoX (by omega)
   rw[if_neg hz]at i;go_enter Tryz.func142,Tryz.ntmps142
   go_wp2_with fail
   refine(f.out _).mono ?_;rintro e t ⟨rfl,rfl⟩;clear f;go_wp2;go_ret;exact⟨by rw[i.out];rfl,l _⟩
 ·have i:Hid (doC d.p n=1):=by show doC d.p n=1;unfold doC;rw[b,if_neg h]
  rw[zoX h]at f;clear m b h;go_enter Tryz.func142,Tryz.ntmps142
  go_wp2_with fail
  refine(f.out _).mono ?_;rintro e t ⟨rfl,rfl⟩;clear f;go_wp2;go_ret;exact⟨by rw[i.out];rfl,l _⟩
theorem zkg(d:PlanD)(n:Nat)(to:Int)(w:World):
 Calls Tryz.prog 99 #[d.v,.int .i64 n,.int .i64 to] w fun e w'=>e=.returned (.int .i64 (zP d.nodes.n n to))/\Below w.heap.size w w':=by
 have b:∀o,Below w.heap.size w (w.alloc o):=fun o=>ze (zof _ _)
 by_cases f:to<0
 ·have i:=zoY f;have a:Hid (zP d.nodes.n n to=1):=by show zP _ _ _=1;unfold zP;rw[if_pos (.inl f)]
  go_enter Tryz.func99,Tryz.ntmps99
  go_wp2;go_ret;exact⟨by rw[a.out];rfl,b _⟩
 have i:=zoX f;by_cases g:(d.nodes.n:Int)<to
 ·have k:=zoY g;have a:Hid (zP d.nodes.n n to=1):=by show zP _ _ _=1;unfold zP;rw[if_pos (.inr g)]
  go_enter Tryz.func99,Tryz.ntmps99
  go_wp2;go_ret;exact⟨by rw[a.out];rfl,b _⟩
 have k:=zoX g;have h:¬(to<0\/(d.nodes.n:Int)<to):=by omega
 by_cases c:to<=(n:Int)
 ·have j:=zoY c;have a:Hid (zP d.nodes.n n to=11):=by show zP _ _ _=11;unfold zP;rw[if_neg h,if_pos c]
  go_enter Tryz.func99,Tryz.ntmps99
  go_wp2;go_ret;exact⟨by rw[a.out];rfl,b _⟩
 ·have j:=zoX c;have a:Hid (zP d.nodes.n n to=0):=by show zP _ _ _=0;unfold zP;rw[if_neg h,if_neg c]
  go_enter Tryz.func99,Tryz.ntmps99
  go_wp2;go_ret;exact⟨by rw[a.out];rfl,b _⟩
@[reducible] def NodeD.v(x:NodeD):Value:=.agg #[.int .i64 x.kind,.int .i64 x.n,.slice x.e.a x.e.n x.e.c,.int .i64 x.yes,.int .i64 x.no]
theorem zlL(d:PlanD)(x:NodeD)(w:World)(B:d.lie w)(E:QRow 4 PushD.lie w x.e x.es):
 Calls Tryz.prog 100 #[d.v,x.v] w fun e w'=>e=.returned (.int .i64 (xN d.p x.p))/\Below w.heap.size w w':=by
 have l:∀o b,Below w.heap.size w ((w.alloc o).alloc b):=fun o b=>ze (ze (zof _ _))
 have y:d.p.hs.length=d.heads.n:=by simp[PlanD.p,B.hs.1]
 have A:d.p.ts.length=d.tabs.n:=by simp[PlanD.p,B.ts.1]
 have u:Hid (∀w',Calls Tryz.prog 141 #[.slice d.tabs.a d.tabs.n d.tabs.c,.int .i64 x.n] w' fun e f=>e=.returned (.int .i64 (xz d.p.ts.length x.n))/\f=w'):=fun w'=>by rw[A];exact zkf _ _ _ _ w'
 have s:Hid (∀w',Calls Tryz.prog 134 #[.slice d.heads.a d.heads.n d.heads.c,.int .i64 x.n] w' fun e f=>e=.returned (.int .i64 (xz d.p.hs.length x.n))/\f=w'):=fun w'=>by rw[y];exact zeR _ _ _ _ w'
 have h:Hid (∀o b,Calls Tryz.prog 142 #[d.v,.int .i64 x.n] ((w.alloc o).alloc b) fun e f=>e=.returned (.int .i64 (doC d.p x.n))/\Below ((w.alloc o).alloc b).heap.size ((w.alloc o).alloc b) f):=fun o b=>zm2 d x.n _ (B.step (l o b))
 have g:Hid (∀o b,Calls Tryz.prog 133 #[d.v,.slice x.e.a x.e.n x.e.c,.slice none 0 0] ((w.alloc o).alloc b) fun e f=>e=.returned (.int .i64 (xl d.p x.es []))/\Below ((w.alloc o).alloc b).heap.size ((w.alloc o).alloc b) f):=fun o b=>ze8 d x.e x.es none 0 0 [] _ (B.step (l o b)) (E.step PushD.keeps (l o b)) (zW _ _)
 have m:=hid l;clear B E y A;by_cases i:x.kind=1
 ·have F:(x.kind==1)=true:=by simpa using i
  have q:Hid (xN d.p x.p=xz d.p.ts.length x.n):=by show xN d.p x.p=_;unfold xN;rw[if_pos (show x.p.kind=1 from i)];rfl
  clear i s h g;go_enter Tryz.func100,Tryz.ntmps100
  go_wp2_with fail
  refine(u.out _).mono ?_;rintro e D ⟨rfl,rfl⟩;clear u;go_wp2;go_ret;exact⟨by rw[q.out];rfl,l _ _⟩
 have F:(x.kind==1)=false:=by simpa using i
 by_cases k:x.kind=2
 ·have I:(x.kind==2)=true:=by simpa using k
  have q:Hid (xN d.p x.p=doC d.p x.n):=by show xN d.p x.p=_;unfold xN;rw[if_neg (show¬x.p.kind=1 from i),if_pos (show x.p.kind=2 from k)];rfl
  clear i k s u g l;go_enter Tryz.func100,Tryz.ntmps100
  go_wp2_with fail
  refine(h.out _ _).mono ?_;rintro e D ⟨rfl,j⟩;have C:=hid (zh (m.out _ _) j);clear h j m;go_wp2;go_ret;exact⟨by rw[q.out];rfl,C.out⟩
 have I:(x.kind==2)=false:=by simpa using k
 by_cases r:x.kind=3
 ·have H:(x.kind==3)=true:=by simpa using r
  have q:Hid (xN d.p x.p=xl d.p x.es []):=by show xN d.p x.p=_;unfold xN;rw[if_neg (show¬x.p.kind=1 from i),if_neg (show¬x.p.kind=2 from k),if_pos (show x.p.kind=3 from r)];rfl
  clear i k r s u h l;go_enter Tryz.func100,Tryz.ntmps100
  go_wp2_with fail
  refine(g.out _ _).mono ?_;rintro e D ⟨rfl,j⟩;have C:=hid (zh (m.out _ _) j);clear g j m;go_wp2;go_ret;exact⟨by rw[q.out];rfl,C.out⟩
 have H:(x.kind==3)=false:=by simpa using r
 by_cases t:x.kind=4
 ·have G:(x.kind==4)=true:=by simpa using t
  have q:Hid (xN d.p x.p=xz d.p.hs.length x.n):=by show xN d.p x.p=_;unfold xN;rw[if_neg (show¬x.p.kind=1 from i),if_neg (show¬x.p.kind=2 from k),if_neg (show¬x.p.kind=3 from r),if_pos (show x.p.kind=4 from t)];rfl
  clear i k r t u h g;go_enter Tryz.func100,Tryz.ntmps100
  go_wp2_with fail
  refine(s.out _).mono ?_;rintro e D ⟨rfl,rfl⟩;clear s;go_wp2;go_ret;exact⟨by rw[q.out];rfl,l _ _⟩
 ·have G:(x.kind==4)=false:=by simpa using t
  have q:Hid (xN d.p x.p=5):=by show xN d.p x.p=_;unfold xN;rw[if_neg (show¬x.p.kind=1 from i),if_neg (show¬x.p.kind=2 from k),if_neg (show¬x.p.kind=3 from r),if_neg (show¬x.p.kind=4 from t)]
  clear i k r t u s h g;go_enter Tryz.func100,Tryz.ntmps100
  go_wp2;go_ret;exact⟨by rw[q.out];rfl,l _ _⟩
def JIn(d:PlanD)(n:Int)(b e:Nat)(w:World):Prop:=(w.cell? ⟨b,0,none⟩=some (.slice d.heads.a d.heads.n d.heads.c)/\w.cell? ⟨b,1,none⟩=some (.slice d.mta.a d.mta.n d.mta.c)/\w.cell? ⟨b,2,none⟩=some (.slice d.states.a d.states.n d.states.c)/\w.cell? ⟨b,3,none⟩=some (.slice d.acts.a d.acts.n d.acts.c)/\w.cell? ⟨b,4,none⟩=some (.slice d.tabs.a d.tabs.n d.tabs.c)/\w.cell? ⟨b,5,none⟩=some (.slice d.nodes.a d.nodes.n d.nodes.c)/\w.cell? ⟨b,6,none⟩=some (.slice d.out.a d.out.n d.out.c))/\w.cell? ⟨e,0,none⟩=some (.int .i64 n)
theorem JIn.step{d:PlanD}{n:Int}{a c:Nat}{w w':World}(h:JIn d n a c w)(b:Below w.heap.size w w'):JIn d n a c w':=by
 obtain⟨⟨g,f,i,e,l,j,m⟩,k⟩:=h;exact⟨⟨za g b,za f b,za i b,za e b,za l b,za j b,za m b⟩,za k b⟩
theorem zbO(d:PlanD)(n:Nat)(c f:Nat)(to:Int)(w:World)(i:JIn d n c f w):
 Calls Tryz.prog 98 #[.int .i64 to,.pointer (some ⟨c,0,none⟩),.pointer (some ⟨f,0,none⟩)] w fun e w'=>e=.returned (.int .i64 (zP d.nodes.n n to))/\Below w.heap.size w w':=by
 obtain⟨⟨j,r,k,g,q,l,h⟩,m⟩:=i;have b:=hid (zkg d n to w);go_enter Tryz.func98,Tryz.ntmps98
 go_wp2_with fail
 refine b.out.mono ?_;rintro e s ⟨rfl,a⟩;have o:=hid a;clear b a j r k g q l h m;go_wp2;go_ret;exact⟨rfl,o.out⟩
theorem jP(H K:Value)(s:QSl)(L:List Int)(b:Int->Int)(w:World)(hs:s.n<=100000)(u:Has .i64 w s.a s.n L)
 (J:∀w',Below w.heap.size w w'->∀c∈L,Calls Tryz.prog 98 #[.int .i64 c,H,K] w' fun e D=>e=.returned (.int .i64 (b c))/\Below w'.heap.size w' D):
 Calls Tryz.prog 92 #[.slice s.a s.n s.c,.func (.func 98) #[] #[H,K]] w (xX (L.map b) w):=by
 have HD:Hid (∀w' R,zn (L.map b)=R->Below w.heap.size w w'->xX (L.map b) w (.returned (.int .i64 R)) w'):=fun w' R h hb=>⟨by rw[h],hb⟩
 obtain⟨A,ee⟩:∃A,s.a=A:=⟨_,rfl⟩;have T:=hid u;have S:=hid J;have Q:=hid u.1;have o:Hid (Below w.heap.size w w):=zof _ _;rw[ee];have P:=hid ee;clear u J ee;go_enter Tryz.func92,Tryz.ntmps92
 go_wp2;go_loopw [10,6,7] (fun q _ _ wr=>∃k:Nat,k<=s.n/\q=.int .i64 k/\Hid (zn (L.map b)=zn ((L.drop k).map b))/\Hid (Below w.heap.size w wr)) (fun q _ _ _=>s.n-(intOf q).toNat)
 case atStart=>exact⟨0,zon _,rfl,rfl,o⟩
 case round=>
  obtain⟨k,V,rfl,d,hb⟩:=hrel;clear o;by_cases G:k<s.n
  ·obtain⟨g,off,x,m,B,W⟩:=zaL (T.out.step hb.out) G;obtain rfl:A=some ⟨g,off,none⟩:=by rw[<-P.out];exact m
   have N:(k:Int)<(s.n:Int):=by omega
   have j:zn ((L.drop k).map b)=if b x≠0 then b x else zn ((L.drop (k+1)).map b):=by
    obtain⟨y,e⟩:=zok.1 B;rw[zoM y,e];rfl
   have i:=hid (S.out wr (hb.out) x (zol B));have r:=hid (zof wr.heap.size wr);clear m B;generalize b x=C at*;by_cases t:C=0
   ·have F:Hid (zn (L.map b)=zn ((L.drop (k+1)).map b)):=by show zn (L.map b)=_;rw[d.out,j,if_neg (by simp[t])]
    subst t;clear j d;go_wp2_with fail
    refine i.out.mono ?_;rintro e O ⟨rfl,f⟩;have l:=hid (zh (zh hb.out r.out) f);clear i f hb r;go_wp2;go_roundw
    case rel=>exact⟨k+1,by omega,by go_num,F,l⟩
    case measure=>simp[intOf];omega
   ·have F:Hid (zn (L.map b)=C):=by show zn (L.map b)=_;rw[d.out,j,if_pos t]
    have U:(C !=0)=true:=by simpa using t
    clear j d;go_wp2_with fail
    refine i.out.mono ?_;rintro e O ⟨rfl,f⟩;have l:=hid (zh (zh hb.out r.out) f);clear i f hb r;go_wp2;go_ret;exact HD.out _ _ F.out l.out
  ·have I:k=s.n:=by omega
   have M:Hid (zn (L.map b)=0):=by
    show zn (L.map b)=_;rw[d.out,I,<-Q.out,zoP];rfl
   have E:=hid hb.out;clear d hb;subst I;go_wp2;go_ret;exact HD.out _ _ M.out E.out
theorem zmw{w:World}{ops:Array Oper}{rest:List Oper}{o:Oper}{a:Act}{Q:Exit->Act->World->Prop}(f:o.guard=none)(s x:Operand)
 (r:o.op=.call {callee:=.builtin .append,args:= #[s,x],argTypes:= #[23,23]}) (base:Nat) (l:Value) (n:Nat) (j:List Int) (hs:a.eval s=l) (d:w.ownsRow base 3 1 l n (II j)) (b:base<=w.heap.size)
 (ad:Addr) (m c:Nat) (zs:List Int) (B:a.eval x=.slice (some ad) m c) (hz:Has .i64 w (some ad) m zs) (e:n+m<=10000000)
 (h:∀v' w',w'.ownsRow base 3 1 v' (n+m) (II (j++zs))->Below base w w'->wpList Tryz.prog ops Q rest (a.put o.dst v') w'):wpList Tryz.prog ops Q (o::rest) a w:=by
 obtain⟨u,hi,g,q,i⟩:=info_parts Tryz.infoInt;refine wpList_append_own w f s x 23 r base 3 u (.int .i64 0) 1 8 Tryz.underlying23 hi g q i rfl (by decide) l n (II j) hs d ad m c (II zs) B (by have:=hz.1;simp[II];omega) (zaN hz) (zge zs) (by unfold maxLen;omega) (by omega) b ?_
 intro v' w' A t _;refine h v' w' (by simpa[II]using A) ((zof _ _).grown t b ?_)
 intro k y;exact(d.lt k y).1
theorem zkh(d:PlanD)(w:World)(hl:d.lie w)(k:Nat)(hk:k<d.nodes.n)(x:NodeD)(hx:d.ns[k]?=some x):
 Calls Tryz.prog 50 #[d.v,.int .i64 k] w fun e w'=>e=.returned (.int .i64 (yG d.p k x.p))/\Below w.heap.size w w':=by
 have S:∀o A,Below w.heap.size w ((w.alloc o).alloc A):=fun o A=>ze (ze (zof _ _))
 obtain⟨g,off,x',ea,a6,⟨c0,_⟩,⟨c1,_⟩,⟨c2,_⟩,⟨c3,w3⟩,⟨c4,w4⟩,a3⟩:=zu hl.ns hk;obtain rfl:x=x':=by rw[hx]at a6;exact zoq a6
 have a7:d.p.ns.length=d.nodes.n:=by simp[PlanD.p,hl.ns.1]
 have HU:Hid (∀w',Below w.heap.size w w'->Calls Tryz.prog 100 #[d.v,x.v] w' fun e C=>e=.returned (.int .i64 (xN d.p x.p))/\Below w'.heap.size w' C):=fun w' h=>zlL d x w' (hl.step h) (a3.step PushD.keeps h)
 have Y:Hid (yG d.p k x.p=or2 (xN d.p x.p) (zn ((if x.kind=3\/x.kind=4 then[x.yes,x.no]else[x.yes]).map (zP d.nodes.n k)))):=by
  show yG d.p k x.p=_;unfold yG;rw[a7];rfl
 generalize xN d.p x.p=U at*;generalize m:zn ((if x.kind=3\/x.kind=4 then[x.yes,x.no]else[x.yes]).map (zP d.nodes.n k))=FSq at*
 have P:Hid (∀(w':World),Calls Tryz.prog 88 #[.slice (some ⟨w'.heap.size,0,none⟩) 2 2] (w'.alloc (.cells #[.int .i64 U,.int .i64 FSq] 3)) fun e C=>e=.returned (.int .i64 (or2 U FSq))/\C=w'.alloc (.cells #[.int .i64 U,.int .i64 FSq] 3)):=fun w'=>zbl (b:=w'.heap.size) (x:=U) (y:=FSq) (or2 U FSq) rfl (by simp) (by simp)
 have a8:(k:Int)<(d.nodes.n:Int):=by omega
 have k0:∀o A,((w.alloc o).alloc A).cell? ⟨g,off+k*5,none⟩=some (.int .i64 x.kind):=fun o A=>za c0 (S o A)
 have k1:∀o A,((w.alloc o).alloc A).cell? ⟨g,off+k*5+1,none⟩=some (.int .i64 x.n):=fun o A=>za c1 (S o A)
 have k2:∀o A,((w.alloc o).alloc A).cell? ⟨g,off+k*5+2,none⟩=some (.slice x.e.a x.e.n x.e.c):=fun o A=>za c2 (S o A)
 have k3:∀o A,((w.alloc o).alloc A).cell? ⟨g,off+k*5+3,none⟩=some (.int .i64 x.yes):=fun o A=>za c3 (S o A)
 have k4:∀o A,((w.alloc o).alloc A).cell? ⟨g,off+k*5+4,none⟩=some (.int .i64 x.no):=fun o A=>za c4 (S o A)
 obtain⟨j,hW⟩:∃j,j=((((w.alloc (.cells #[.slice d.heads.a d.heads.n d.heads.c,.slice d.mta.a d.mta.n d.mta.c,.slice d.states.a d.states.n d.states.c,.slice d.acts.a d.acts.n d.acts.c,.slice d.tabs.a d.tabs.n d.tabs.c,.slice (some ⟨g,off,none⟩) d.nodes.n d.nodes.c,.slice d.out.a d.out.n d.out.c] 102)).alloc (.cells #[.int .i64 (k:Int)] 3)).alloc (.cells #[.int .i64 x.kind,.int .i64 x.n,.slice x.e.a x.e.n x.e.c,.int .i64 x.yes,.int .i64 x.no] 65)).alloc (.cells #[.int .i64 x.yes] 3)):=⟨_,rfl⟩;obtain⟨i,h0⟩:∃i,i=w.heap.size:=⟨_,rfl⟩;obtain⟨N,h1⟩:∃N,N=w.heap.size+1:=⟨_,rfl⟩;obtain⟨B,h2⟩:∃B,B=w.heap.size+1+1:=⟨_,rfl⟩;obtain⟨H,h3⟩:∃H,H=w.heap.size+1+1+1:=⟨_,rfl⟩;have z0:j.cell? ⟨i,0,none⟩=some (.slice d.heads.a d.heads.n d.heads.c):=by rw[hW,h0];exact(zoe _ _ _ (by simp;omega)).trans ((zoe _ _ _ (by simp;omega)).trans ((zoe _ _ _ (by simp)).trans ((zod _ _ _ _ rfl).trans rfl)))
 have z1:j.cell? ⟨i,1,none⟩=some (.slice d.mta.a d.mta.n d.mta.c):=by rw[hW,h0];exact(zoe _ _ _ (by simp;omega)).trans ((zoe _ _ _ (by simp;omega)).trans ((zoe _ _ _ (by simp)).trans ((zod _ _ _ _ rfl).trans rfl)))
 have z2:j.cell? ⟨i,2,none⟩=some (.slice d.states.a d.states.n d.states.c):=by rw[hW,h0];exact(zoe _ _ _ (by simp;omega)).trans ((zoe _ _ _ (by simp;omega)).trans ((zoe _ _ _ (by simp)).trans ((zod _ _ _ _ rfl).trans rfl)))
 have z3:j.cell? ⟨i,3,none⟩=some (.slice d.acts.a d.acts.n d.acts.c):=by rw[hW,h0];exact(zoe _ _ _ (by simp;omega)).trans ((zoe _ _ _ (by simp;omega)).trans ((zoe _ _ _ (by simp)).trans ((zod _ _ _ _ rfl).trans rfl)))
 have z4:j.cell? ⟨i,4,none⟩=some (.slice d.tabs.a d.tabs.n d.tabs.c):=by rw[hW,h0];exact(zoe _ _ _ (by simp;omega)).trans ((zoe _ _ _ (by simp;omega)).trans ((zoe _ _ _ (by simp)).trans ((zod _ _ _ _ rfl).trans rfl)))
 have z5:j.cell? ⟨i,5,none⟩=some (.slice (some ⟨g,off,none⟩) d.nodes.n d.nodes.c):=by rw[hW,h0];exact(zoe _ _ _ (by simp;omega)).trans ((zoe _ _ _ (by simp;omega)).trans ((zoe _ _ _ (by simp)).trans ((zod _ _ _ _ rfl).trans rfl)))
 have z6:j.cell? ⟨i,6,none⟩=some (.slice d.out.a d.out.n d.out.c):=by rw[hW,h0];exact(zoe _ _ _ (by simp;omega)).trans ((zoe _ _ _ (by simp;omega)).trans ((zoe _ _ _ (by simp)).trans ((zod _ _ _ _ rfl).trans rfl)))
 have y0:j.cell? ⟨N,0,none⟩=some (.int .i64 (k:Int)):=by rw[hW,h1];exact(zoe _ _ _ (by simp)).trans ((zoe _ _ _ (by simp)).trans ((zod _ _ _ _ (by simp)).trans rfl))
 have x0:j.cell? ⟨B,0,none⟩=some (.int .i64 x.kind):=by rw[hW,h2];exact(zoe _ _ _ (by simp)).trans ((zod _ _ _ _ (by simp)).trans rfl)
 have x1:j.cell? ⟨B,1,none⟩=some (.int .i64 x.n):=by rw[hW,h2];exact(zoe _ _ _ (by simp)).trans ((zod _ _ _ _ (by simp)).trans rfl)
 have x2:j.cell? ⟨B,2,none⟩=some (.slice x.e.a x.e.n x.e.c):=by rw[hW,h2];exact(zoe _ _ _ (by simp)).trans ((zod _ _ _ _ (by simp)).trans rfl)
 have x3:j.cell? ⟨B,3,none⟩=some (.int .i64 x.yes):=by rw[hW,h2];exact(zoe _ _ _ (by simp)).trans ((zod _ _ _ _ (by simp)).trans rfl)
 have x4:j.cell? ⟨B,4,none⟩=some (.int .i64 x.no):=by rw[hW,h2];exact(zoe _ _ _ (by simp)).trans ((zod _ _ _ _ (by simp)).trans rfl)
 have HB:Hid (Below w.heap.size w j):=by rw[hW];exact ze (ze (ze (ze (zof _ _))))
 have E:j.heap.size=H+1:=by rw[hW,h3];simp
 have a4:=hid w3;have a0:=hid w4;have E4:=hid hW;have Z:=hid h0;have E1:=hid h1;have E2:=hid h2;have Q:=hid h3;unfold PlanD.v at HU;rw[ea]at HU;clear hW h0 h1 h2 h3 hl hx a6 c0 c1 c2 c3 c4 a3 a7 S;have a9:∀(fn:Fn) (first cap:Array Value) (w:World),(Instr.makeFunc fn first cap).run Tryz.prog w=.ok (.func fn first cap) w:=fun _ _ _ _=>rfl
 by_cases q3:x.kind=3
 ·have e3:(x.kind==3)=true:=by simpa using q3
  have r:x.kind=3\/x.kind=4:=.inl q3;clear q3;have X:Hid (zn ([x.yes,x.no].map (zP d.nodes.n k))=FSq):=by rw[if_pos r]at m;exact m
  clear m r;have K:Hid ((j.alloc (.cells #[.int .i64 x.no] 3)).ownsRow (w.heap.size+3) 3 1 (.slice (some ⟨H,0,none⟩) 1 1) 1 (II [x.yes])):=by
   refine zU ?_ (ze (zof _ _));rw[E4.out,Q.out];simpa[II]using World.ownsRow_lit (e:=3) (size:=1) (base:=w.heap.size+3) (((w.alloc (.cells #[.slice d.heads.a d.heads.n d.heads.c,.slice d.mta.a d.mta.n d.mta.c,.slice d.states.a d.states.n d.states.c,.slice d.acts.a d.acts.n d.acts.c,.slice d.tabs.a d.tabs.n d.tabs.c,.slice (some ⟨g,off,none⟩) d.nodes.n d.nodes.c,.slice d.out.a d.out.n d.out.c] 102)).alloc (.cells #[.int .i64 (k:Int)] 3)).alloc (.cells #[.int .i64 x.kind,.int .i64 x.n,.slice x.e.a x.e.n x.e.c,.int .i64 x.yes,.int .i64 x.no] 65)) #[.int .i64 x.yes] 1 (by simp) (by unfold maxLen;omega) (by simp)
  have F:Hid (Has .i64 (j.alloc (.cells #[.int .i64 x.no] 3)) (some ⟨H+1,0,none⟩) 1 [x.no]):=by
   show Has .i64 (j.alloc (.cells #[.int .i64 x.no] 3)) (some ⟨H+1,0,none⟩) 1 [x.no];rw[<-E];exact qi j x.no a0.out
  have V:w.heap.size+3<=(j.alloc (.cells #[.int .i64 x.no] 3)).heap.size:=by rw[World.size_alloc,E,Q.out];omega
  have T:=hid V;clear V;go_enter Tryz.func50,Tryz.ntmps50
  go_wp2_with (at_builtin;rw[<-E4.out,<-Q.out,<-E2.out,<-E1.out,<-Z.out];refine zmw rfl _ _ rfl (w.heap.size+3) (.slice (some ⟨H,0,none⟩) 1 1) 1 [x.yes] ?a1 K.out T.out ⟨H+1,0,none⟩ 1 1 [x.no] ?a2 F.out (by omega) ?_)
  case a1=>rfl
  case a2=>rfl
  intro v5 w5 O W;obtain⟨a5,c5,rfl,_,_⟩:=jR O;have s:Hid (Has .i64 w5 a5 2 [x.yes,x.no]):=kJ O (by
   intro n hn;simp only[zoD,zoA,or_false]at hn;rcases hn with rfl|rfl
   ·exact a4.out
   ·exact a0.out)
  have f:Hid (Below (w.heap.size+3) j w5):=((zof _ _).alloc (by rw[E,Q.out];omega) _).trans W
  have t:=hid (HB.out.trans (f.out.mono (by omega)))
  have D:Hid (JIn d k i N w5):=by
   rw[<-ea]at z5;have G:∀{b o:Nat} {v:Value},b<w.heap.size+3->j.cell? ⟨b,o,none⟩=some v->w5.cell? ⟨b,o,none⟩=some v:=fun hb h=>(f.out.cell (p:=⟨_,_,none⟩) hb).trans h
   have l:i<w.heap.size+3:=by rw[Z.out];omega
   have l1:N<w.heap.size+3:=by rw[E1.out];omega
   exact⟨⟨G l z0,G l z1,G l z2,G l z3,G l z4,G l z5,G l z6⟩,G l1 y0⟩
  have l:i<w.heap.size+3:=by rw[Z.out];omega
  have R:B<w.heap.size+3:=by rw[E2.out];omega
  have z0:=(f.out.cell (p:=⟨i,0,none⟩) l).trans z0;have z1:=(f.out.cell (p:=⟨i,1,none⟩) l).trans z1;have z2:=(f.out.cell (p:=⟨i,2,none⟩) l).trans z2;have z3:=(f.out.cell (p:=⟨i,3,none⟩) l).trans z3;have z4:=(f.out.cell (p:=⟨i,4,none⟩) l).trans z4;have z5:=(f.out.cell (p:=⟨i,5,none⟩) l).trans z5;have z6:=(f.out.cell (p:=⟨i,6,none⟩) l).trans z6;have x0:=(f.out.cell (p:=⟨B,0,none⟩) R).trans x0;have x1:=(f.out.cell (p:=⟨B,1,none⟩) R).trans x1;have x2:=(f.out.cell (p:=⟨B,2,none⟩) R).trans x2;have x3:=(f.out.cell (p:=⟨B,3,none⟩) R).trans x3;have x4:=(f.out.cell (p:=⟨B,4,none⟩) R).trans x4;clear O W f K F T HB E4 Q E2 E1 Z l R E;go_wp2_with fail
  refine(HU.out _ t.out).mono ?_;rintro e u1 ⟨rfl,q⟩;have J:=hid (zh t.out q);have I:=hid (s.out.step q);have HJ:=hid (D.out.step q);have u:Hid (Calls Tryz.prog 92 #[.slice a5 2 c5,.func (.func 98) #[] #[.pointer (some ⟨i,0,none⟩),.pointer (some ⟨N,0,none⟩)]] u1 fun e C=>e=.returned (.int .i64 (zn ([x.yes,x.no].map (zP d.nodes.n k))))/\Below u1.heap.size u1 C):=
   jP (.pointer (some ⟨i,0,none⟩)) (.pointer (some ⟨N,0,none⟩)) ⟨a5,2,c5⟩ [x.yes,x.no] (zP d.nodes.n k) u1 (by simp) I.out (fun w' h c _=>zbO d k i N c w' (HJ.out.step h))
  clear q HU t s D;rw[X.out]at u;go_wp2_with fail
  refine u.out.mono ?_;rintro e u2 ⟨rfl,M⟩;have L:=hid (zh J.out M);clear M u J I HJ;go_wp2_with fail
  refine(P.out _).mono ?_;rintro e u3 ⟨rfl,rfl⟩;have HE:=hid (ze (o:=.cells #[.int .i64 U,.int .i64 FSq] 3) L.out);clear P L;go_wp2;go_ret;exact⟨by rw[Y.out];rfl,HE.out⟩
 have e3:(x.kind==3)=false:=by simpa using q3
 by_cases q4:x.kind=4
 ·have e4:(x.kind==4)=true:=by simpa using q4
  have r:x.kind=3\/x.kind=4:=.inr q4;clear q3 q4;have X:Hid (zn ([x.yes,x.no].map (zP d.nodes.n k))=FSq):=by rw[if_pos r]at m;exact m
  clear m r;have K:Hid ((j.alloc (.cells #[.int .i64 x.no] 3)).ownsRow (w.heap.size+3) 3 1 (.slice (some ⟨H,0,none⟩) 1 1) 1 (II [x.yes])):=by
   refine zU ?_ (ze (zof _ _));rw[E4.out,Q.out];simpa[II]using World.ownsRow_lit (e:=3) (size:=1) (base:=w.heap.size+3) (((w.alloc (.cells #[.slice d.heads.a d.heads.n d.heads.c,.slice d.mta.a d.mta.n d.mta.c,.slice d.states.a d.states.n d.states.c,.slice d.acts.a d.acts.n d.acts.c,.slice d.tabs.a d.tabs.n d.tabs.c,.slice (some ⟨g,off,none⟩) d.nodes.n d.nodes.c,.slice d.out.a d.out.n d.out.c] 102)).alloc (.cells #[.int .i64 (k:Int)] 3)).alloc (.cells #[.int .i64 x.kind,.int .i64 x.n,.slice x.e.a x.e.n x.e.c,.int .i64 x.yes,.int .i64 x.no] 65)) #[.int .i64 x.yes] 1 (by simp) (by unfold maxLen;omega) (by simp)
  have F:Hid (Has .i64 (j.alloc (.cells #[.int .i64 x.no] 3)) (some ⟨H+1,0,none⟩) 1 [x.no]):=by
   show Has .i64 (j.alloc (.cells #[.int .i64 x.no] 3)) (some ⟨H+1,0,none⟩) 1 [x.no];rw[<-E];exact qi j x.no a0.out
  have V:w.heap.size+3<=(j.alloc (.cells #[.int .i64 x.no] 3)).heap.size:=by rw[World.size_alloc,E,Q.out];omega
  have T:=hid V;clear V;go_enter Tryz.func50,Tryz.ntmps50
  go_wp2_with (at_builtin;rw[<-E4.out,<-Q.out,<-E2.out,<-E1.out,<-Z.out];refine zmw rfl _ _ rfl (w.heap.size+3) (.slice (some ⟨H,0,none⟩) 1 1) 1 [x.yes] ?a1 K.out T.out ⟨H+1,0,none⟩ 1 1 [x.no] ?a2 F.out (by omega) ?_)
  case a1=>rfl
  case a2=>rfl
  intro v5 w5 O W;obtain⟨a5,c5,rfl,_,_⟩:=jR O;have s:Hid (Has .i64 w5 a5 2 [x.yes,x.no]):=kJ O (by
   intro n hn;simp only[zoD,zoA,or_false]at hn;rcases hn with rfl|rfl
   ·exact a4.out
   ·exact a0.out)
  have f:Hid (Below (w.heap.size+3) j w5):=((zof _ _).alloc (by rw[E,Q.out];omega) _).trans W
  have t:=hid (HB.out.trans (f.out.mono (by omega)))
  have D:Hid (JIn d k i N w5):=by
   rw[<-ea]at z5;have G:∀{b o:Nat} {v:Value},b<w.heap.size+3->j.cell? ⟨b,o,none⟩=some v->w5.cell? ⟨b,o,none⟩=some v:=fun hb h=>(f.out.cell (p:=⟨_,_,none⟩) hb).trans h
   have l:i<w.heap.size+3:=by rw[Z.out];omega
   have l1:N<w.heap.size+3:=by rw[E1.out];omega
   exact⟨⟨G l z0,G l z1,G l z2,G l z3,G l z4,G l z5,G l z6⟩,G l1 y0⟩
  have l:i<w.heap.size+3:=by rw[Z.out];omega
  have R:B<w.heap.size+3:=by rw[E2.out];omega
  have z0:=(f.out.cell (p:=⟨i,0,none⟩) l).trans z0;have z1:=(f.out.cell (p:=⟨i,1,none⟩) l).trans z1;have z2:=(f.out.cell (p:=⟨i,2,none⟩) l).trans z2;have z3:=(f.out.cell (p:=⟨i,3,none⟩) l).trans z3;have z4:=(f.out.cell (p:=⟨i,4,none⟩) l).trans z4;have z5:=(f.out.cell (p:=⟨i,5,none⟩) l).trans z5;have z6:=(f.out.cell (p:=⟨i,6,none⟩) l).trans z6;have x0:=(f.out.cell (p:=⟨B,0,none⟩) R).trans x0;have x1:=(f.out.cell (p:=⟨B,1,none⟩) R).trans x1;have x2:=(f.out.cell (p:=⟨B,2,none⟩) R).trans x2;have x3:=(f.out.cell (p:=⟨B,3,none⟩) R).trans x3;have x4:=(f.out.cell (p:=⟨B,4,none⟩) R).trans x4;clear O W f K F T HB E4 Q E2 E1 Z l R E;go_wp2_with fail
  refine(HU.out _ t.out).mono ?_;rintro e u1 ⟨rfl,q⟩;have J:=hid (zh t.out q);have I:=hid (s.out.step q);have HJ:=hid (D.out.step q);have u:Hid (Calls Tryz.prog 92 #[.slice a5 2 c5,.func (.func 98) #[] #[.pointer (some ⟨i,0,none⟩),.pointer (some ⟨N,0,none⟩)]] u1 fun e C=>e=.returned (.int .i64 (zn ([x.yes,x.no].map (zP d.nodes.n k))))/\Below u1.heap.size u1 C):=
   jP (.pointer (some ⟨i,0,none⟩)) (.pointer (some ⟨N,0,none⟩)) ⟨a5,2,c5⟩ [x.yes,x.no] (zP d.nodes.n k) u1 (by simp) I.out (fun w' h c _=>zbO d k i N c w' (HJ.out.step h))
  clear q HU t s D;rw[X.out]at u;go_wp2_with fail
  refine u.out.mono ?_;rintro e u2 ⟨rfl,M⟩;have L:=hid (zh J.out M);clear M u J I HJ;go_wp2_with fail
  refine(P.out _).mono ?_;rintro e u3 ⟨rfl,rfl⟩;have HE:=hid (ze (o:=.cells #[.int .i64 U,.int .i64 FSq] 3) L.out);clear P L;go_wp2;go_ret;exact⟨by rw[Y.out];rfl,HE.out⟩
 ·have e4:(x.kind==4)=false:=by simpa using q4
  have r:¬(x.kind=3\/x.kind=4):=fun h=>h.elim q3 q4
  clear q3 q4;skip
  have X:Hid (zn ([x.yes].map (zP d.nodes.n k))=FSq):=by rw[if_neg r]at m;exact m
  clear m r;have t:=hid HB.out;have s:Hid (Has .i64 j (some ⟨H,0,none⟩) 1 [x.yes]):=by show Has .i64 j (some ⟨H,0,none⟩) 1 [x.yes];rw[E4.out,Q.out];simpa using qi (((w.alloc (.cells #[.slice d.heads.a d.heads.n d.heads.c,.slice d.mta.a d.mta.n d.mta.c,.slice d.states.a d.states.n d.states.c,.slice d.acts.a d.acts.n d.acts.c,.slice d.tabs.a d.tabs.n d.tabs.c,.slice (some ⟨g,off,none⟩) d.nodes.n d.nodes.c,.slice d.out.a d.out.n d.out.c] 102)).alloc (.cells #[.int .i64 (k:Int)] 3)).alloc (.cells #[.int .i64 x.kind,.int .i64 x.n,.slice x.e.a x.e.n x.e.c,.int .i64 x.yes,.int .i64 x.no] 65)) x.yes a4.out
  have D:Hid (JIn d k i N j):=by rw[<-ea]at z5;exact⟨⟨z0,z1,z2,z3,z4,z5,z6⟩,y0⟩
  go_enter Tryz.func50,Tryz.ntmps50
  go_wp2_with fail
  rw[<-E4.out,<-Q.out,<-E2.out,<-E1.out,<-Z.out];clear E4 Q E2 E1 Z HB;refine(HU.out _ t.out).mono ?_;rintro e u1 ⟨rfl,q⟩;have J:=hid (zh t.out q);have I:=hid (s.out.step q);have HJ:=hid (D.out.step q);have u:Hid (Calls Tryz.prog 92 #[.slice (some ⟨H,0,none⟩) 1 1,.func (.func 98) #[] #[.pointer (some ⟨i,0,none⟩),.pointer (some ⟨N,0,none⟩)]] u1 fun e C=>e=.returned (.int .i64 (zn ([x.yes].map (zP d.nodes.n k))))/\Below u1.heap.size u1 C):=
   jP (.pointer (some ⟨i,0,none⟩)) (.pointer (some ⟨N,0,none⟩)) ⟨(some ⟨H,0,none⟩),1,1⟩ [x.yes] (zP d.nodes.n k) u1 (by simp) I.out (fun w' h c _=>zbO d k i N c w' (HJ.out.step h))
  clear q HU t s D;rw[X.out]at u;go_wp2_with fail
  refine u.out.mono ?_;rintro e u2 ⟨rfl,M⟩;have L:=hid (zh J.out M);clear M u J I HJ;go_wp2_with fail
  refine(P.out _).mono ?_;rintro e u3 ⟨rfl,rfl⟩;have HE:=hid (ze (o:=.cells #[.int .i64 U,.int .i64 FSq] 3) L.out);clear P L;go_wp2;go_ret;exact⟨by rw[Y.out];rfl,HE.out⟩
end Go.Proofs.YtbmcgbmegcpgnaaGreat
