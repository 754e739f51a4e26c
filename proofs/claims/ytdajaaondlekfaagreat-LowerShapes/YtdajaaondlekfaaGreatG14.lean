import Derived.Test.YtdajaaondlekfaaGreatG11
import Derived.Test.YtdajaaondlekfaaGreatG10
import Derived.Test.YtdajaaondlekfaaGreatG5
import Derived.Laws.EntriesVeiled
import Derived.Test.YtdajaaondlekfaaGreatG1
import Derived.Test.YtdajaaondlekfaaGreatG6
set_option maxHeartbeats 16000000
set_option maxRecDepth 20000
set_option linter.unusedSimpArgs false
namespace Go.Proofs.YtdajaaondlekfaaGreat
open Go.RowKit
theorem zm2(d:PlanD)(n:Int)(w:World)(q:d.lie w):
 Calls Tryz.prog 212 #[d.v,.int .i64 n] w fun e w'=>e=.returned (.int .i64 (doC d.p n))/\Below w.heap.size w w':=by
 have b:d.p.al.length=d.acts.n:=by simp[PlanD.p,q.al.1]
 have m:∀o,Below w.heap.size w (w.alloc o):=fun o=>ze (zof _ _)
 have f:Hid (∀w',Calls Tryz.prog 226 #[.slice d.acts.a d.acts.n d.acts.c,.int .i64 n] w' fun e r=>e=.returned (.bool (decide (0<=n/\n<(d.acts.n:Int))))/\r=w'):=fun w'=>zh7 _ _ _ _ w'
 by_cases h:0<=n/\n<(d.acts.n:Int)
 ·obtain⟨k,rfl⟩:∃k:Nat,n=k:=⟨n.toNat,by omega⟩
  have u:k<d.acts.n:=by omega
  obtain⟨g,off,x,A,s,⟨c0,_⟩,_,j,_⟩:=zu q.al u;have hr:doC d.p k=if 0<x.w.n then 2 else 0:=by
   unfold doC;rw[b,if_pos h,zov];have y:d.p.al.getD k ⟨[],[]⟩=x.p:=by
    simp only[PlanD.p,zoi,zoy,s];rfl
   rw[y];show(if 0<x.ws.length then 2 else 0)=_
   rw[j.1]
  have E:∀o,(w.alloc o).cell? ⟨g,off+k*2,none⟩=some (.slice x.w.a x.w.n x.w.c):=fun o=>za c0 (m o)
  rw[zoY h]at f;have C:(k:Int)<(d.acts.n:Int):=by omega
  have i:=hid hr;rw[A]at f;clear q s c0 j hr b h;by_cases l:0<x.w.n
  ·have B:=zoY l;have D:decide ((0:Int)<(x.w.n:Int))=true:=zoY (by omega)
   rw[if_pos l]at i;go_enter Tryz.func212,Tryz.ntmps212
   go_wp2_with fail
   refine(f.out _).mono ?_;rintro e t ⟨rfl,rfl⟩;clear f;go_wp2;go_ret;exact⟨by rw[i.out];rfl,m _⟩
  ·have B:=zoX l;have D:decide ((0:Int)<(x.w.n:Int))=false:=zoX (by omega)
   rw[if_neg l]at i;go_enter Tryz.func212,Tryz.ntmps212
   go_wp2_with fail
   refine(f.out _).mono ?_;rintro e t ⟨rfl,rfl⟩;clear f;go_wp2;go_ret;exact⟨by rw[i.out];rfl,m _⟩
 ·have i:Hid (doC d.p n=1):=by show doC d.p n=1;unfold doC;rw[b,if_neg h]
  rw[zoX h]at f;clear q b h;go_enter Tryz.func212,Tryz.ntmps212
  go_wp2_with fail
  refine(f.out _).mono ?_;rintro e t ⟨rfl,rfl⟩;clear f;go_wp2;go_ret;exact⟨by rw[i.out];rfl,m _⟩
theorem zkg(d:PlanD)(n:Nat)(to:Int)(w:World):
 Calls Tryz.prog 183 #[d.v,.int .i64 n,.int .i64 to] w fun e w'=>e=.returned (.int .i64 (zP d.nodes.n n to))/\Below w.heap.size w w':=by
 have b:∀o,Below w.heap.size w (w.alloc o):=fun o=>ze (zof _ _)
 by_cases h0:to<0
 ·have g:=zoY h0;have a:Hid (zP d.nodes.n n to=1):=by show zP _ _ _=1;unfold zP;rw[if_pos (.inl h0)]
  go_enter Tryz.func183,Tryz.ntmps183
  go_wp2;go_ret;exact⟨by rw[a.out];rfl,b _⟩
 have g:=zoX h0;by_cases c:(d.nodes.n:Int)<to
 ·have h:=zoY c;have a:Hid (zP d.nodes.n n to=1):=by show zP _ _ _=1;unfold zP;rw[if_pos (.inr c)]
  go_enter Tryz.func183,Tryz.ntmps183
  go_wp2;go_ret;exact⟨by rw[a.out];rfl,b _⟩
 have h:=zoX c;have f:¬(to<0\/(d.nodes.n:Int)<to):=by omega
 by_cases h2:to<=(n:Int)
 ·have i:=zoY h2;have a:Hid (zP d.nodes.n n to=11):=by show zP _ _ _=11;unfold zP;rw[if_neg f,if_pos h2]
  go_enter Tryz.func183,Tryz.ntmps183
  go_wp2;go_ret;exact⟨by rw[a.out];rfl,b _⟩
 ·have i:=zoX h2;have a:Hid (zP d.nodes.n n to=0):=by show zP _ _ _=0;unfold zP;rw[if_neg f,if_neg h2]
  go_enter Tryz.func183,Tryz.ntmps183
  go_wp2;go_ret;exact⟨by rw[a.out];rfl,b _⟩
@[reducible] def NodeD.v(x:NodeD):Value:=.agg #[.int .i64 x.kind,.int .i64 x.n,.slice x.e.a x.e.n x.e.c,.int .i64 x.yes,.int .i64 x.no]
theorem zlL(d:PlanD)(x:NodeD)(w:World)(y:d.lie w)(E:QRow 4 PushD.lie w x.e x.es):
 Calls Tryz.prog 184 #[d.v,x.v] w fun e w'=>e=.returned (.int .i64 (xN d.p x.p))/\Below w.heap.size w w':=by
 have l:∀o f,Below w.heap.size w ((w.alloc o).alloc f):=fun o f=>ze (ze (zof _ _))
 have A:d.p.hs.length=d.heads.n:=by simp[PlanD.p,y.hs.1]
 have B:d.p.ts.length=d.tabs.n:=by simp[PlanD.p,y.ts.1]
 have t:Hid (∀w',Calls Tryz.prog 211 #[.slice d.tabs.a d.tabs.n d.tabs.c,.int .i64 x.n] w' fun e b=>e=.returned (.int .i64 (xz d.p.ts.length x.n))/\b=w'):=fun w'=>by rw[B];exact zkf _ _ _ _ w'
 have s:Hid (∀w',Calls Tryz.prog 204 #[.slice d.heads.a d.heads.n d.heads.c,.int .i64 x.n] w' fun e b=>e=.returned (.int .i64 (xz d.p.hs.length x.n))/\b=w'):=fun w'=>by rw[A];exact zeR _ _ _ _ w'
 have h:Hid (∀o f,Calls Tryz.prog 212 #[d.v,.int .i64 x.n] ((w.alloc o).alloc f) fun e b=>e=.returned (.int .i64 (doC d.p x.n))/\Below ((w.alloc o).alloc f).heap.size ((w.alloc o).alloc f) b):=fun o f=>zm2 d x.n _ (y.step (l o f))
 have g:Hid (∀o f,Calls Tryz.prog 203 #[d.v,.slice x.e.a x.e.n x.e.c,.slice none 0 0] ((w.alloc o).alloc f) fun e b=>e=.returned (.int .i64 (xl d.p x.es []))/\Below ((w.alloc o).alloc f).heap.size ((w.alloc o).alloc f) b):=fun o f=>ze8 d x.e x.es none 0 0 [] _ (y.step (l o f)) (E.step PushD.keeps (l o f)) (zW _ _)
 have q:=hid l;clear y E A B;by_cases i:x.kind=1
 ·have G:(x.kind==1)=true:=by simpa using i
  have m:Hid (xN d.p x.p=xz d.p.ts.length x.n):=by show xN d.p x.p=_;unfold xN;rw[if_pos (show x.p.kind=1 from i)];rfl
  clear i s h g;go_enter Tryz.func184,Tryz.ntmps184
  go_wp2_with fail
  refine(t.out _).mono ?_;rintro e D ⟨rfl,rfl⟩;clear t;go_wp2;go_ret;exact⟨by rw[m.out];rfl,l _ _⟩
 have G:(x.kind==1)=false:=by simpa using i
 by_cases k:x.kind=2
 ·have I:(x.kind==2)=true:=by simpa using k
  have m:Hid (xN d.p x.p=doC d.p x.n):=by show xN d.p x.p=_;unfold xN;rw[if_neg (show¬x.p.kind=1 from i),if_pos (show x.p.kind=2 from k)];rfl
  clear i k s t g l;go_enter Tryz.func184,Tryz.ntmps184
  go_wp2_with fail
  refine(h.out _ _).mono ?_;rintro e D ⟨rfl,j⟩;have C:=hid (zh (q.out _ _) j);clear h j q;go_wp2;go_ret;exact⟨by rw[m.out];rfl,C.out⟩
 have I:(x.kind==2)=false:=by simpa using k
 by_cases r:x.kind=3
 ·have F:(x.kind==3)=true:=by simpa using r
  have m:Hid (xN d.p x.p=xl d.p x.es []):=by show xN d.p x.p=_;unfold xN;rw[if_neg (show¬x.p.kind=1 from i),if_neg (show¬x.p.kind=2 from k),if_pos (show x.p.kind=3 from r)];rfl
  clear i k r s t h l;go_enter Tryz.func184,Tryz.ntmps184
  go_wp2_with fail
  refine(g.out _ _).mono ?_;rintro e D ⟨rfl,j⟩;have C:=hid (zh (q.out _ _) j);clear g j q;go_wp2;go_ret;exact⟨by rw[m.out];rfl,C.out⟩
 have F:(x.kind==3)=false:=by simpa using r
 by_cases u:x.kind=4
 ·have H:(x.kind==4)=true:=by simpa using u
  have m:Hid (xN d.p x.p=xz d.p.hs.length x.n):=by show xN d.p x.p=_;unfold xN;rw[if_neg (show¬x.p.kind=1 from i),if_neg (show¬x.p.kind=2 from k),if_neg (show¬x.p.kind=3 from r),if_pos (show x.p.kind=4 from u)];rfl
  clear i k r u t h g;go_enter Tryz.func184,Tryz.ntmps184
  go_wp2_with fail
  refine(s.out _).mono ?_;rintro e D ⟨rfl,rfl⟩;clear s;go_wp2;go_ret;exact⟨by rw[m.out];rfl,l _ _⟩
 ·have H:(x.kind==4)=false:=by simpa using u
  have m:Hid (xN d.p x.p=5):=by show xN d.p x.p=_;unfold xN;rw[if_neg (show¬x.p.kind=1 from i),if_neg (show¬x.p.kind=2 from k),if_neg (show¬x.p.kind=3 from r),if_neg (show¬x.p.kind=4 from u)]
  clear i k r u t s h g;go_enter Tryz.func184,Tryz.ntmps184
  go_wp2;go_ret;exact⟨by rw[m.out];rfl,l _ _⟩
def JIn(d:PlanD)(n:Int)(b0 b:Nat)(w:World):Prop:=(w.cell? ⟨b0,0,none⟩=some (.slice d.heads.a d.heads.n d.heads.c)/\w.cell? ⟨b0,1,none⟩=some (.slice d.mta.a d.mta.n d.mta.c)/\w.cell? ⟨b0,2,none⟩=some (.slice d.states.a d.states.n d.states.c)/\w.cell? ⟨b0,3,none⟩=some (.slice d.acts.a d.acts.n d.acts.c)/\w.cell? ⟨b0,4,none⟩=some (.slice d.tabs.a d.tabs.n d.tabs.c)/\w.cell? ⟨b0,5,none⟩=some (.slice d.nodes.a d.nodes.n d.nodes.c)/\w.cell? ⟨b0,6,none⟩=some (.slice d.out.a d.out.n d.out.c))/\w.cell? ⟨b,0,none⟩=some (.int .i64 n)
theorem JIn.step{d:PlanD}{n:Int}{b0 a:Nat}{w w':World}(h:JIn d n b0 a w)(b:Below w.heap.size w w'):JIn d n b0 a w':=by
 obtain⟨⟨h0,i,h2,e,f,g,c⟩,h7⟩:=h;exact⟨⟨za h0 b,za i b,za h2 b,za e b,za f b,za g b,za c b⟩,za h7 b⟩
theorem zbO(d:PlanD)(n:Nat)(b0 b:Nat)(to:Int)(w:World)(h:JIn d n b0 b w):
 Calls Tryz.prog 182 #[.int .i64 to,.pointer (some ⟨b0,0,none⟩),.pointer (some ⟨b,0,none⟩)] w fun e w'=>e=.returned (.int .i64 (zP d.nodes.n n to))/\Below w.heap.size w w':=by
 obtain⟨⟨h0,j,h2,f,g,i,c⟩,h7⟩:=h;have HC:=hid (zkg d n to w);go_enter Tryz.func182,Tryz.ntmps182
 go_wp2_with fail
 refine HC.out.mono ?_;rintro e l ⟨rfl,a⟩;have k:=hid a;clear HC a h0 j h2 f g i c h7;go_wp2;go_ret;exact⟨rfl,k.out⟩
theorem jP(F H:Value)(s:QSl)(L:List Int)(code:Int->Int)(w:World)(hs:s.n<=100000)(u:Has .i64 w s.a s.n L)
 (G:∀w',Below w.heap.size w w'->∀c∈L,Calls Tryz.prog 182 #[.int .i64 c,F,H] w' fun e t=>e=.returned (.int .i64 (code c))/\Below w'.heap.size w' t):
 Calls Tryz.prog 176 #[.slice s.a s.n s.c,.func (.func 182) #[] #[F,H]] w (xX (L.map code) w):=by
 have HD:Hid (∀w' R,zn (L.map code)=R->Below w.heap.size w w'->xX (L.map code) w (.returned (.int .i64 R)) w'):=fun w' R h hb=>⟨by rw[h],hb⟩
 obtain⟨D,ee⟩:∃D,s.a=D:=⟨_,rfl⟩;have J:=hid u;have HC:=hid G;have K:=hid u.1;have m:Hid (Below w.heap.size w w):=zof _ _;rw[ee];have N:=hid ee;clear u G ee;go_enter Tryz.func176,Tryz.ntmps176
 go_wp2;go_loopw [10,6,7] (fun q _ _ wr=>∃k:Nat,k<=s.n/\q=.int .i64 k/\Hid (zn (L.map code)=zn ((L.drop k).map code))/\Hid (Below w.heap.size w wr)) (fun q _ _ _=>s.n-(intOf q).toNat)
 case atStart=>exact⟨0,zon _,rfl,rfl,m⟩
 case round=>
  obtain⟨k,Q,rfl,b,hb⟩:=hrel;clear m;by_cases r:k<s.n
  ·obtain⟨g,off,x,l,A,r0⟩:=zaL (J.out.step hb.out) r;obtain rfl:D=some ⟨g,off,none⟩:=by rw[<-N.out];exact l
   have P:(k:Int)<(s.n:Int):=by omega
   have i:zn ((L.drop k).map code)=if code x≠0 then code x else zn ((L.drop (k+1)).map code):=by
    obtain⟨B,e⟩:=zok.1 A;rw[zoM B,e];rfl
   have f:=hid (HC.out wr (hb.out) x (zol A));have o:=hid (zof wr.heap.size wr);clear l A;generalize code x=C at*;by_cases h0:C=0
   ·have y:Hid (zn (L.map code)=zn ((L.drop (k+1)).map code)):=by show zn (L.map code)=_;rw[b.out,i,if_neg (by simp[h0])]
    subst h0;clear i b;go_wp2_with fail
    refine f.out.mono ?_;rintro e O ⟨rfl,d⟩;have j:=hid (zh (zh hb.out o.out) d);clear f d hb o;go_wp2;go_roundw
    case rel=>exact⟨k+1,by omega,by go_num,y,j⟩
    case measure=>simp[intOf];omega
   ·have y:Hid (zn (L.map code)=C):=by show zn (L.map code)=_;rw[b.out,i,if_pos h0]
    have b0:(C !=0)=true:=by simpa using h0
    clear i b;go_wp2_with fail
    refine f.out.mono ?_;rintro e O ⟨rfl,d⟩;have j:=hid (zh (zh hb.out o.out) d);clear f d hb o;go_wp2;go_ret;exact HD.out _ _ y.out j.out
  ·have I:k=s.n:=by omega
   have M:Hid (zn (L.map code)=0):=by
    show zn (L.map code)=_;rw[b.out,I,<-K.out,zoP];rfl
   have E:=hid hb.out;clear b hb;subst I;go_wp2;go_ret;exact HD.out _ _ M.out E.out
theorem zmw{w:World}{ops:Array Oper}{rest:List Oper}{o:Oper}{a:Act}{Q:Exit->Act->World->Prop}(q:o.guard=none)(s x:Operand)
 (t:o.op=.call {callee:=.builtin .append,args:= #[s,x],argTypes:= #[23,23]}) (base:Nat) (f:Value) (n:Nat) (g:List Int) (hs:a.eval s=f) (d:w.ownsRow base 3 1 f n (II g)) (b:base<=w.heap.size)
 (ad:Addr) (m c:Nat) (zs:List Int) (u:a.eval x=.slice (some ad) m c) (r:Has .i64 w (some ad) m zs) (e:n+m<=10000000)
 (h:∀v' w',w'.ownsRow base 3 1 v' (n+m) (II (g++zs))->Below base w w'->wpList Tryz.prog ops Q rest (a.put o.dst v') w'):wpList Tryz.prog ops Q (o::rest) a w:=by
 obtain⟨B,hi,j,i,l⟩:=info_parts Tryz.infoInt;refine wpList_append_own w q s x 23 t base 3 B (.int .i64 0) 1 8 Tryz.underlying23 hi j i l rfl (by decide) f n (II g) hs d ad m c (II zs) u (by have:=r.1;simp[II];omega) (zaN r) (zge zs) (by unfold maxLen;omega) (by omega) b ?_
 intro v' w' A h2 _;refine h v' w' (by simpa[II]using A) ((zof _ _).grown h2 b ?_)
 intro k y;exact(d.lt k y).1
theorem zkh(d:PlanD)(w:World)(hl:d.lie w)(k:Nat)(hk:k<d.nodes.n)(x:NodeD)(hx:d.ns[k]?=some x):
 Calls Tryz.prog 142 #[d.v,.int .i64 k] w fun e w'=>e=.returned (.int .i64 (yG d.p k x.p))/\Below w.heap.size w w':=by
 have Q:∀o u,Below w.heap.size w ((w.alloc o).alloc u):=fun o u=>ze (ze (zof _ _))
 obtain⟨g,off,x',ea,a4,⟨c0,_⟩,⟨c1,_⟩,⟨c2,_⟩,⟨c3,w3⟩,⟨c4,w4⟩,a3⟩:=zu hl.ns hk;obtain rfl:x=x':=by rw[hx]at a4;exact zoq a4
 have a7:d.p.ns.length=d.nodes.n:=by simp[PlanD.p,hl.ns.1]
 have HU:Hid (∀w',Below w.heap.size w w'->Calls Tryz.prog 184 #[d.v,x.v] w' fun e B=>e=.returned (.int .i64 (xN d.p x.p))/\Below w'.heap.size w' B):=fun w' h=>zlL d x w' (hl.step h) (a3.step PushD.keeps h)
 have W:Hid (yG d.p k x.p=or2 (xN d.p x.p) (zn ((if x.kind=3\/x.kind=4 then[x.yes,x.no]else[x.yes]).map (zP d.nodes.n k)))):=by
  show yG d.p k x.p=_;unfold yG;rw[a7];rfl
 generalize xN d.p x.p=U at*;generalize m:zn ((if x.kind=3\/x.kind=4 then[x.yes,x.no]else[x.yes]).map (zP d.nodes.n k))=FSq at*
 have P:Hid (∀(w':World),Calls Tryz.prog 172 #[.slice (some ⟨w'.heap.size,0,none⟩) 2 2] (w'.alloc (.cells #[.int .i64 U,.int .i64 FSq] 3)) fun e B=>e=.returned (.int .i64 (or2 U FSq))/\B=w'.alloc (.cells #[.int .i64 U,.int .i64 FSq] 3)):=fun w'=>zbl (b:=w'.heap.size) (x:=U) (y:=FSq) (or2 U FSq) rfl (by simp) (by simp)
 have a9:(k:Int)<(d.nodes.n:Int):=by omega
 have k0:∀o u,((w.alloc o).alloc u).cell? ⟨g,off+k*5,none⟩=some (.int .i64 x.kind):=fun o u=>za c0 (Q o u)
 have k1:∀o u,((w.alloc o).alloc u).cell? ⟨g,off+k*5+1,none⟩=some (.int .i64 x.n):=fun o u=>za c1 (Q o u)
 have k2:∀o u,((w.alloc o).alloc u).cell? ⟨g,off+k*5+2,none⟩=some (.slice x.e.a x.e.n x.e.c):=fun o u=>za c2 (Q o u)
 have k3:∀o u,((w.alloc o).alloc u).cell? ⟨g,off+k*5+3,none⟩=some (.int .i64 x.yes):=fun o u=>za c3 (Q o u)
 have k4:∀o u,((w.alloc o).alloc u).cell? ⟨g,off+k*5+4,none⟩=some (.int .i64 x.no):=fun o u=>za c4 (Q o u)
 obtain⟨i,hW⟩:∃i,i=((((w.alloc (.cells #[.slice d.heads.a d.heads.n d.heads.c,.slice d.mta.a d.mta.n d.mta.c,.slice d.states.a d.states.n d.states.c,.slice d.acts.a d.acts.n d.acts.c,.slice d.tabs.a d.tabs.n d.tabs.c,.slice (some ⟨g,off,none⟩) d.nodes.n d.nodes.c,.slice d.out.a d.out.n d.out.c] 228)).alloc (.cells #[.int .i64 (k:Int)] 3)).alloc (.cells #[.int .i64 x.kind,.int .i64 x.n,.slice x.e.a x.e.n x.e.c,.int .i64 x.yes,.int .i64 x.no] 71)).alloc (.cells #[.int .i64 x.yes] 3)):=⟨_,rfl⟩;obtain⟨b0,h0⟩:∃b0,b0=w.heap.size:=⟨_,rfl⟩;obtain⟨F,h1⟩:∃F,F=w.heap.size+1:=⟨_,rfl⟩;obtain⟨A,h2⟩:∃A,A=w.heap.size+1+1:=⟨_,rfl⟩;obtain⟨K,h3⟩:∃K,K=w.heap.size+1+1+1:=⟨_,rfl⟩;have z0:i.cell? ⟨b0,0,none⟩=some (.slice d.heads.a d.heads.n d.heads.c):=by rw[hW,h0];exact(zoe _ _ _ (by simp;omega)).trans ((zoe _ _ _ (by simp;omega)).trans ((zoe _ _ _ (by simp)).trans ((zod _ _ _ _ rfl).trans rfl)))
 have z1:i.cell? ⟨b0,1,none⟩=some (.slice d.mta.a d.mta.n d.mta.c):=by rw[hW,h0];exact(zoe _ _ _ (by simp;omega)).trans ((zoe _ _ _ (by simp;omega)).trans ((zoe _ _ _ (by simp)).trans ((zod _ _ _ _ rfl).trans rfl)))
 have z2:i.cell? ⟨b0,2,none⟩=some (.slice d.states.a d.states.n d.states.c):=by rw[hW,h0];exact(zoe _ _ _ (by simp;omega)).trans ((zoe _ _ _ (by simp;omega)).trans ((zoe _ _ _ (by simp)).trans ((zod _ _ _ _ rfl).trans rfl)))
 have z3:i.cell? ⟨b0,3,none⟩=some (.slice d.acts.a d.acts.n d.acts.c):=by rw[hW,h0];exact(zoe _ _ _ (by simp;omega)).trans ((zoe _ _ _ (by simp;omega)).trans ((zoe _ _ _ (by simp)).trans ((zod _ _ _ _ rfl).trans rfl)))
 have z4:i.cell? ⟨b0,4,none⟩=some (.slice d.tabs.a d.tabs.n d.tabs.c):=by rw[hW,h0];exact(zoe _ _ _ (by simp;omega)).trans ((zoe _ _ _ (by simp;omega)).trans ((zoe _ _ _ (by simp)).trans ((zod _ _ _ _ rfl).trans rfl)))
 have X:i.cell? ⟨b0,5,none⟩=some (.slice (some ⟨g,off,none⟩) d.nodes.n d.nodes.c):=by rw[hW,h0];exact(zoe _ _ _ (by simp;omega)).trans ((zoe _ _ _ (by simp;omega)).trans ((zoe _ _ _ (by simp)).trans ((zod _ _ _ _ rfl).trans rfl)))
 have z6:i.cell? ⟨b0,6,none⟩=some (.slice d.out.a d.out.n d.out.c):=by rw[hW,h0];exact(zoe _ _ _ (by simp;omega)).trans ((zoe _ _ _ (by simp;omega)).trans ((zoe _ _ _ (by simp)).trans ((zod _ _ _ _ rfl).trans rfl)))
 have y0:i.cell? ⟨F,0,none⟩=some (.int .i64 (k:Int)):=by rw[hW,h1];exact(zoe _ _ _ (by simp)).trans ((zoe _ _ _ (by simp)).trans ((zod _ _ _ _ (by simp)).trans rfl))
 have x0:i.cell? ⟨A,0,none⟩=some (.int .i64 x.kind):=by rw[hW,h2];exact(zoe _ _ _ (by simp)).trans ((zod _ _ _ _ (by simp)).trans rfl)
 have x1:i.cell? ⟨A,1,none⟩=some (.int .i64 x.n):=by rw[hW,h2];exact(zoe _ _ _ (by simp)).trans ((zod _ _ _ _ (by simp)).trans rfl)
 have x2:i.cell? ⟨A,2,none⟩=some (.slice x.e.a x.e.n x.e.c):=by rw[hW,h2];exact(zoe _ _ _ (by simp)).trans ((zod _ _ _ _ (by simp)).trans rfl)
 have x3:i.cell? ⟨A,3,none⟩=some (.int .i64 x.yes):=by rw[hW,h2];exact(zoe _ _ _ (by simp)).trans ((zod _ _ _ _ (by simp)).trans rfl)
 have x4:i.cell? ⟨A,4,none⟩=some (.int .i64 x.no):=by rw[hW,h2];exact(zoe _ _ _ (by simp)).trans ((zod _ _ _ _ (by simp)).trans rfl)
 have HB:Hid (Below w.heap.size w i):=by rw[hW];exact ze (ze (ze (ze (zof _ _))))
 have E:i.heap.size=K+1:=by rw[hW,h3];simp
 have a6:=hid w3;have a0:=hid w4;have E4:=hid hW;have Y:=hid h0;have E1:=hid h1;have E2:=hid h2;have O:=hid h3;unfold PlanD.v at HU;rw[ea]at HU;clear hW h0 h1 h2 h3 hl hx a4 c0 c1 c2 c3 c4 a3 a7 Q;have a8:∀(fn:Fn) (first cap:Array Value) (w:World),(Instr.makeFunc fn first cap).run Tryz.prog w=.ok (.func fn first cap) w:=fun _ _ _ _=>rfl
 by_cases q3:x.kind=3
 ·have e3:(x.kind==3)=true:=by simpa using q3
  have q:x.kind=3\/x.kind=4:=.inl q3;clear q3;have T:Hid (zn ([x.yes,x.no].map (zP d.nodes.n k))=FSq):=by rw[if_pos q]at m;exact m
  clear m q;have C:Hid ((i.alloc (.cells #[.int .i64 x.no] 3)).ownsRow (w.heap.size+3) 3 1 (.slice (some ⟨K,0,none⟩) 1 1) 1 (II [x.yes])):=by
   refine zU ?_ (ze (zof _ _));rw[E4.out,O.out];simpa[II]using World.ownsRow_lit (e:=3) (size:=1) (base:=w.heap.size+3) (((w.alloc (.cells #[.slice d.heads.a d.heads.n d.heads.c,.slice d.mta.a d.mta.n d.mta.c,.slice d.states.a d.states.n d.states.c,.slice d.acts.a d.acts.n d.acts.c,.slice d.tabs.a d.tabs.n d.tabs.c,.slice (some ⟨g,off,none⟩) d.nodes.n d.nodes.c,.slice d.out.a d.out.n d.out.c] 228)).alloc (.cells #[.int .i64 (k:Int)] 3)).alloc (.cells #[.int .i64 x.kind,.int .i64 x.n,.slice x.e.a x.e.n x.e.c,.int .i64 x.yes,.int .i64 x.no] 71)) #[.int .i64 x.yes] 1 (by simp) (by unfold maxLen;omega) (by simp)
  have I:Hid (Has .i64 (i.alloc (.cells #[.int .i64 x.no] 3)) (some ⟨K+1,0,none⟩) 1 [x.no]):=by
   show Has .i64 (i.alloc (.cells #[.int .i64 x.no] 3)) (some ⟨K+1,0,none⟩) 1 [x.no];rw[<-E];exact qi i x.no a0.out
  have S:w.heap.size+3<=(i.alloc (.cells #[.int .i64 x.no] 3)).heap.size:=by rw[World.size_alloc,E,O.out];omega
  have V:=hid S;clear S;go_enter Tryz.func142,Tryz.ntmps142
  go_wp2_with (at_builtin;rw[<-E4.out,<-O.out,<-E2.out,<-E1.out,<-Y.out];refine zmw rfl _ _ rfl (w.heap.size+3) (.slice (some ⟨K,0,none⟩) 1 1) 1 [x.yes] ?a1 C.out V.out ⟨K+1,0,none⟩ 1 1 [x.no] ?a2 I.out (by omega) ?_)
  case a1=>rfl
  case a2=>rfl
  intro v5 Z N R;obtain⟨a5,c5,rfl,_,_⟩:=jR N;have r:Hid (Has .i64 Z a5 2 [x.yes,x.no]):=kJ N (by
   intro n hn;simp only[zoD,zoA,or_false]at hn;rcases hn with rfl|rfl
   ·exact a6.out
   ·exact a0.out)
  have f:Hid (Below (w.heap.size+3) i Z):=((zof _ _).alloc (by rw[E,O.out];omega) _).trans R
  have s:=hid (HB.out.trans (f.out.mono (by omega)))
  have M:Hid (JIn d k b0 F Z):=by
   rw[<-ea]at X;have L:∀{b o:Nat} {v:Value},b<w.heap.size+3->i.cell? ⟨b,o,none⟩=some v->Z.cell? ⟨b,o,none⟩=some v:=fun hb h=>(f.out.cell (p:=⟨_,_,none⟩) hb).trans h
   have j:b0<w.heap.size+3:=by rw[Y.out];omega
   have l1:F<w.heap.size+3:=by rw[E1.out];omega
   exact⟨⟨L j z0,L j z1,L j z2,L j z3,L j z4,L j X,L j z6⟩,L l1 y0⟩
  have j:b0<w.heap.size+3:=by rw[Y.out];omega
  have l2:A<w.heap.size+3:=by rw[E2.out];omega
  have z0:=(f.out.cell (p:=⟨b0,0,none⟩) j).trans z0;have z1:=(f.out.cell (p:=⟨b0,1,none⟩) j).trans z1;have z2:=(f.out.cell (p:=⟨b0,2,none⟩) j).trans z2;have z3:=(f.out.cell (p:=⟨b0,3,none⟩) j).trans z3;have z4:=(f.out.cell (p:=⟨b0,4,none⟩) j).trans z4;have X:=(f.out.cell (p:=⟨b0,5,none⟩) j).trans X;have z6:=(f.out.cell (p:=⟨b0,6,none⟩) j).trans z6;have x0:=(f.out.cell (p:=⟨A,0,none⟩) l2).trans x0;have x1:=(f.out.cell (p:=⟨A,1,none⟩) l2).trans x1;have x2:=(f.out.cell (p:=⟨A,2,none⟩) l2).trans x2;have x3:=(f.out.cell (p:=⟨A,3,none⟩) l2).trans x3;have x4:=(f.out.cell (p:=⟨A,4,none⟩) l2).trans x4;clear N R f C I V HB E4 O E2 E1 Y j l2 E;go_wp2_with fail
  refine(HU.out _ s.out).mono ?_;rintro e u1 ⟨rfl,l⟩;have D:=hid (zh s.out l);have G:=hid (r.out.step l);have HJ:=hid (M.out.step l);have t:Hid (Calls Tryz.prog 176 #[.slice a5 2 c5,.func (.func 182) #[] #[.pointer (some ⟨b0,0,none⟩),.pointer (some ⟨F,0,none⟩)]] u1 fun e B=>e=.returned (.int .i64 (zn ([x.yes,x.no].map (zP d.nodes.n k))))/\Below u1.heap.size u1 B):=
   jP (.pointer (some ⟨b0,0,none⟩)) (.pointer (some ⟨F,0,none⟩)) ⟨a5,2,c5⟩ [x.yes,x.no] (zP d.nodes.n k) u1 (by simp) G.out (fun w' h c _=>zbO d k b0 F c w' (HJ.out.step h))
  clear l HU s r M;rw[T.out]at t;go_wp2_with fail
  refine t.out.mono ?_;rintro e u2 ⟨rfl,H⟩;have J:=hid (zh D.out H);clear H t D G HJ;go_wp2_with fail
  refine(P.out _).mono ?_;rintro e u3 ⟨rfl,rfl⟩;have HE:=hid (ze (o:=.cells #[.int .i64 U,.int .i64 FSq] 3) J.out);clear P J;go_wp2;go_ret;exact⟨by rw[W.out];rfl,HE.out⟩
 have e3:(x.kind==3)=false:=by simpa using q3
 by_cases q4:x.kind=4
 ·have e4:(x.kind==4)=true:=by simpa using q4
  have q:x.kind=3\/x.kind=4:=.inr q4;clear q3 q4;have T:Hid (zn ([x.yes,x.no].map (zP d.nodes.n k))=FSq):=by rw[if_pos q]at m;exact m
  clear m q;have C:Hid ((i.alloc (.cells #[.int .i64 x.no] 3)).ownsRow (w.heap.size+3) 3 1 (.slice (some ⟨K,0,none⟩) 1 1) 1 (II [x.yes])):=by
   refine zU ?_ (ze (zof _ _));rw[E4.out,O.out];simpa[II]using World.ownsRow_lit (e:=3) (size:=1) (base:=w.heap.size+3) (((w.alloc (.cells #[.slice d.heads.a d.heads.n d.heads.c,.slice d.mta.a d.mta.n d.mta.c,.slice d.states.a d.states.n d.states.c,.slice d.acts.a d.acts.n d.acts.c,.slice d.tabs.a d.tabs.n d.tabs.c,.slice (some ⟨g,off,none⟩) d.nodes.n d.nodes.c,.slice d.out.a d.out.n d.out.c] 228)).alloc (.cells #[.int .i64 (k:Int)] 3)).alloc (.cells #[.int .i64 x.kind,.int .i64 x.n,.slice x.e.a x.e.n x.e.c,.int .i64 x.yes,.int .i64 x.no] 71)) #[.int .i64 x.yes] 1 (by simp) (by unfold maxLen;omega) (by simp)
  have I:Hid (Has .i64 (i.alloc (.cells #[.int .i64 x.no] 3)) (some ⟨K+1,0,none⟩) 1 [x.no]):=by
   show Has .i64 (i.alloc (.cells #[.int .i64 x.no] 3)) (some ⟨K+1,0,none⟩) 1 [x.no];rw[<-E];exact qi i x.no a0.out
  have S:w.heap.size+3<=(i.alloc (.cells #[.int .i64 x.no] 3)).heap.size:=by rw[World.size_alloc,E,O.out];omega
  have V:=hid S;clear S;go_enter Tryz.func142,Tryz.ntmps142
  go_wp2_with (at_builtin;rw[<-E4.out,<-O.out,<-E2.out,<-E1.out,<-Y.out];refine zmw rfl _ _ rfl (w.heap.size+3) (.slice (some ⟨K,0,none⟩) 1 1) 1 [x.yes] ?a1 C.out V.out ⟨K+1,0,none⟩ 1 1 [x.no] ?a2 I.out (by omega) ?_)
  case a1=>rfl
  case a2=>rfl
  intro v5 Z N R;obtain⟨a5,c5,rfl,_,_⟩:=jR N;have r:Hid (Has .i64 Z a5 2 [x.yes,x.no]):=kJ N (by
   intro n hn;simp only[zoD,zoA,or_false]at hn;rcases hn with rfl|rfl
   ·exact a6.out
   ·exact a0.out)
  have f:Hid (Below (w.heap.size+3) i Z):=((zof _ _).alloc (by rw[E,O.out];omega) _).trans R
  have s:=hid (HB.out.trans (f.out.mono (by omega)))
  have M:Hid (JIn d k b0 F Z):=by
   rw[<-ea]at X;have L:∀{b o:Nat} {v:Value},b<w.heap.size+3->i.cell? ⟨b,o,none⟩=some v->Z.cell? ⟨b,o,none⟩=some v:=fun hb h=>(f.out.cell (p:=⟨_,_,none⟩) hb).trans h
   have j:b0<w.heap.size+3:=by rw[Y.out];omega
   have l1:F<w.heap.size+3:=by rw[E1.out];omega
   exact⟨⟨L j z0,L j z1,L j z2,L j z3,L j z4,L j X,L j z6⟩,L l1 y0⟩
  have j:b0<w.heap.size+3:=by rw[Y.out];omega
  have l2:A<w.heap.size+3:=by rw[E2.out];omega
  have z0:=(f.out.cell (p:=⟨b0,0,none⟩) j).trans z0;have z1:=(f.out.cell (p:=⟨b0,1,none⟩) j).trans z1;have z2:=(f.out.cell (p:=⟨b0,2,none⟩) j).trans z2;have z3:=(f.out.cell (p:=⟨b0,3,none⟩) j).trans z3;have z4:=(f.out.cell (p:=⟨b0,4,none⟩) j).trans z4;have X:=(f.out.cell (p:=⟨b0,5,none⟩) j).trans X;have z6:=(f.out.cell (p:=⟨b0,6,none⟩) j).trans z6;have x0:=(f.out.cell (p:=⟨A,0,none⟩) l2).trans x0;have x1:=(f.out.cell (p:=⟨A,1,none⟩) l2).trans x1;have x2:=(f.out.cell (p:=⟨A,2,none⟩) l2).trans x2;have x3:=(f.out.cell (p:=⟨A,3,none⟩) l2).trans x3;have x4:=(f.out.cell (p:=⟨A,4,none⟩) l2).trans x4;clear N R f C I V HB E4 O E2 E1 Y j l2 E;go_wp2_with fail
  refine(HU.out _ s.out).mono ?_;rintro e u1 ⟨rfl,l⟩;have D:=hid (zh s.out l);have G:=hid (r.out.step l);have HJ:=hid (M.out.step l);have t:Hid (Calls Tryz.prog 176 #[.slice a5 2 c5,.func (.func 182) #[] #[.pointer (some ⟨b0,0,none⟩),.pointer (some ⟨F,0,none⟩)]] u1 fun e B=>e=.returned (.int .i64 (zn ([x.yes,x.no].map (zP d.nodes.n k))))/\Below u1.heap.size u1 B):=
   jP (.pointer (some ⟨b0,0,none⟩)) (.pointer (some ⟨F,0,none⟩)) ⟨a5,2,c5⟩ [x.yes,x.no] (zP d.nodes.n k) u1 (by simp) G.out (fun w' h c _=>zbO d k b0 F c w' (HJ.out.step h))
  clear l HU s r M;rw[T.out]at t;go_wp2_with fail
  refine t.out.mono ?_;rintro e u2 ⟨rfl,H⟩;have J:=hid (zh D.out H);clear H t D G HJ;go_wp2_with fail
  refine(P.out _).mono ?_;rintro e u3 ⟨rfl,rfl⟩;have HE:=hid (ze (o:=.cells #[.int .i64 U,.int .i64 FSq] 3) J.out);clear P J;go_wp2;go_ret;exact⟨by rw[W.out];rfl,HE.out⟩
 ·have e4:(x.kind==4)=false:=by simpa using q4
  have q:¬(x.kind=3\/x.kind=4):=fun h=>h.elim q3 q4
  clear q3 q4;skip
  have T:Hid (zn ([x.yes].map (zP d.nodes.n k))=FSq):=by rw[if_neg q]at m;exact m
  clear m q;have s:=hid HB.out;have r:Hid (Has .i64 i (some ⟨K,0,none⟩) 1 [x.yes]):=by show Has .i64 i (some ⟨K,0,none⟩) 1 [x.yes];rw[E4.out,O.out];simpa using qi (((w.alloc (.cells #[.slice d.heads.a d.heads.n d.heads.c,.slice d.mta.a d.mta.n d.mta.c,.slice d.states.a d.states.n d.states.c,.slice d.acts.a d.acts.n d.acts.c,.slice d.tabs.a d.tabs.n d.tabs.c,.slice (some ⟨g,off,none⟩) d.nodes.n d.nodes.c,.slice d.out.a d.out.n d.out.c] 228)).alloc (.cells #[.int .i64 (k:Int)] 3)).alloc (.cells #[.int .i64 x.kind,.int .i64 x.n,.slice x.e.a x.e.n x.e.c,.int .i64 x.yes,.int .i64 x.no] 71)) x.yes a6.out
  have M:Hid (JIn d k b0 F i):=by rw[<-ea]at X;exact⟨⟨z0,z1,z2,z3,z4,X,z6⟩,y0⟩
  go_enter Tryz.func142,Tryz.ntmps142
  go_wp2_with fail
  rw[<-E4.out,<-O.out,<-E2.out,<-E1.out,<-Y.out];clear E4 O E2 E1 Y HB;refine(HU.out _ s.out).mono ?_;rintro e u1 ⟨rfl,l⟩;have D:=hid (zh s.out l);have G:=hid (r.out.step l);have HJ:=hid (M.out.step l);have t:Hid (Calls Tryz.prog 176 #[.slice (some ⟨K,0,none⟩) 1 1,.func (.func 182) #[] #[.pointer (some ⟨b0,0,none⟩),.pointer (some ⟨F,0,none⟩)]] u1 fun e B=>e=.returned (.int .i64 (zn ([x.yes].map (zP d.nodes.n k))))/\Below u1.heap.size u1 B):=
   jP (.pointer (some ⟨b0,0,none⟩)) (.pointer (some ⟨F,0,none⟩)) ⟨(some ⟨K,0,none⟩),1,1⟩ [x.yes] (zP d.nodes.n k) u1 (by simp) G.out (fun w' h c _=>zbO d k b0 F c w' (HJ.out.step h))
  clear l HU s r M;rw[T.out]at t;go_wp2_with fail
  refine t.out.mono ?_;rintro e u2 ⟨rfl,H⟩;have J:=hid (zh D.out H);clear H t D G HJ;go_wp2_with fail
  refine(P.out _).mono ?_;rintro e u3 ⟨rfl,rfl⟩;have HE:=hid (ze (o:=.cells #[.int .i64 U,.int .i64 FSq] 3) J.out);clear P J;go_wp2;go_ret;exact⟨by rw[W.out];rfl,HE.out⟩
def zM(d:PlanD):Nat->Nat
 |0=>d.heads.n
 |1=>d.mta.n
 |2=>d.states.n
 |3=>d.acts.n
 |4=>d.tabs.n
 |5=>d.nodes.n
 |_=>d.out.n
def zS:Nat->Int
 |2=>1
 |_=>0
def yh:Nat->Int
 |0=>6
 |1=>4
 |2=>8
 |3=>8
 |4=>5
 |5=>10
 |_=>6
def kY:Nat->Nat
 |0=>137
 |1=>138
 |2=>139
 |3=>140
 |4=>141
 |5=>142
 |_=>143
def yE(d:PlanD)(cs:Nat->Nat->Int)(k:Nat):Prop:=∃A,qB ((k:Int)+1) (zM d k) (zS k) (yh k) (cs k) 0 A
def jG(d:PlanD)(cs:Nat->Nat->Int)(C A:Int):Prop:=
 (∃k:Nat,k<7/\qB ((k:Int)+1) (zM d k) (zS k) (yh k) (cs k) C A/\C≠0/\∀j,j<k->yE d cs j)\/((∀j,j<7->yE d cs j)/\C=0/\A=0)
def zI(d:PlanD)(cs:Nat->Nat->Int)(w:World)(e:Ending)(w':World):Prop:=∃C A,jG d cs C A/\e=.returned (.agg #[.int .i64 C,.int .i64 A])/\Below w.heap.size w w'
abbrev JB(d:PlanD):Obj:=.cells #[.slice d.heads.a d.heads.n d.heads.c,.slice d.mta.a d.mta.n d.mta.c,.slice d.states.a d.states.n d.states.c,.slice d.acts.a d.acts.n d.acts.c,.slice d.tabs.a d.tabs.n d.tabs.c,.slice d.nodes.a d.nodes.n d.nodes.c,.slice d.out.a d.out.n d.out.c] 228
abbrev PCs(d:PlanD):Array Value:= #[.int .i64 (d.heads.n:Int),.int .i64 0,.int .i64 6,.func (.func 137) #[d.v] #[],.int .i64 (d.mta.n:Int),.int .i64 0,.int .i64 4,.func (.func 138) #[d.v] #[],.int .i64 (d.states.n:Int),.int .i64 1,.int .i64 8,.func (.func 139) #[d.v] #[],.int .i64 (d.acts.n:Int),.int .i64 0,.int .i64 8,.func (.func 140) #[d.v] #[],.int .i64 (d.tabs.n:Int),.int .i64 0,.int .i64 5,.func (.func 141) #[d.v] #[],.int .i64 (d.nodes.n:Int),.int .i64 0,.int .i64 10,.func (.func 142) #[d.v] #[],.int .i64 (d.out.n:Int),.int .i64 0,.int .i64 6,.func (.func 143) #[d.v] #[]]
abbrev PS(d:PlanD):Obj:=.cells (PCs d) 230
theorem zjY{d:PlanD}{w wr:World}(hb:Below (w.heap.size+4) ((((w.alloc d.box).alloc FZ).alloc (JB d)).alloc (PS d)) wr)(i:Nat):wr.cell? ⟨w.heap.size+3,i,none⟩=(PCs d)[i]?:=
 (hb.cell (p:=⟨w.heap.size+3,i,none⟩) (by simp)).trans (zod _ _ _ _ (by simp))
theorem zbG{d:PlanD}{w wr:World}(hb:Below (w.heap.size+4) ((((w.alloc d.box).alloc FZ).alloc (JB d)).alloc (PS d)) wr):
 wr.cell? ⟨w.heap.size+1,0,none⟩=some (.int .i64 0)/\wr.cell? ⟨w.heap.size+1,1,none⟩=some (.int .i64 0)/\wr.frozen? ⟨w.heap.size+1,0,none⟩=false/\wr.frozen? ⟨w.heap.size+1,1,none⟩=false/\w.heap.size+3<wr.heap.size:=
 ⟨(hb.cell (p:=⟨w.heap.size+1,0,none⟩) (by simp)).trans ((zoe _ _ _ (by simp)).trans ((zoe _ _ _ (by simp)).trans ((zod _ _ _ _ (by simp)).trans rfl))),(hb.cell (p:=⟨w.heap.size+1,1,none⟩) (by simp)).trans ((zoe _ _ _ (by simp)).trans ((zoe _ _ _ (by simp)).trans ((zod _ _ _ _ (by simp)).trans rfl))),
  (hb.frozen (p:=⟨w.heap.size+1,0,none⟩) (by simp)).trans ((World.frozen?_alloc_past _ _ _ (by simp)).trans ((World.frozen?_alloc_past _ _ _ (by simp)).trans (zoB _ _ _ _ (by simp)))),(hb.frozen (p:=⟨w.heap.size+1,1,none⟩) (by simp)).trans ((World.frozen?_alloc_past _ _ _ (by simp)).trans ((World.frozen?_alloc_past _ _ _ (by simp)).trans (zoB _ _ _ _ (by simp)))),by have:=hb.size;simp at this;omega⟩
theorem zg1{d:PlanD}{w wr:World}(hb:Below (w.heap.size+4) ((((w.alloc d.box).alloc FZ).alloc (JB d)).alloc (PS d)) wr)(x y:Value):Below w.heap.size w ((wr.setCell ⟨w.heap.size+1,0,none⟩ x).setCell ⟨w.heap.size+1,1,none⟩ y):=
 (((ze (ze (ze (ze (zof w.heap.size w))))).trans (hb.mono (by omega))).setCell (by simp) _).setCell (by simp) _
theorem qx{k:Nat}(h:k<7):k=0\/k=1\/k=2\/k=3\/k=4\/k=5\/k=6:=by omega
theorem zjZ{d:PlanD}{w wr:World}(hb:Below (w.heap.size+4) ((((w.alloc d.box).alloc FZ).alloc (JB d)).alloc (PS d)) wr){k:Nat}(a:k<7):
 wr.cell? ⟨w.heap.size+3,k*4,none⟩=some (.int .i64 (zM d k))/\wr.cell? ⟨w.heap.size+3,k*4+1,none⟩=some (.int .i64 (zS k))/\wr.cell? ⟨w.heap.size+3,k*4+2,none⟩=some (.int .i64 (yh k))/\wr.cell? ⟨w.heap.size+3,k*4+3,none⟩=some (.func (.func (kY k)) #[d.v] #[]):=by
 have h:=zjY hb;rcases qx a with rfl|rfl|rfl|rfl|rfl|rfl|rfl
 all_goals exact⟨h _,h _,h _,h _⟩
theorem zh0(d:PlanD)(cs:Nat->Nat->Int)(w:World)(D:∀k,k<7->zmx (kY k) d.v (zM d k) (cs k) w):
 Calls Tryz.prog 103 #[d.v] w (zI d cs w):=by
 have r:Hid (∀k,k<7->∀wr,Below w.heap.size w wr->Calls Tryz.prog 144 #[.agg #[.int .i64 (zM d k),.int .i64 (zS k),.int .i64 (yh k),.func (.func (kY k)) #[d.v] #[]],.int .i64 ((k:Int)+1)] wr (qf ((k:Int)+1) (zM d k) (zS k) (yh k) (cs k) wr)):=by
  intro k m wr hb;refine zkm (kY k) d.v _ (zM d k) (zS k) (yh k) (cs k) wr ?_ (by omega) ?_ (fun w' s n O=>D k m w' (zh hb s) n O)
  ·rcases qx m with rfl|rfl|rfl|rfl|rfl|rfl|rfl<;>simp[kY]
  ·rcases qx m with rfl|rfl|rfl|rfl|rfl|rfl|rfl<;>simp[yh]
 clear D;have L:∀(E:Fn) (first cap:Array Value) (w:World),(Instr.makeFunc E first cap).run Tryz.prog w=.ok (.func E first cap) w:=fun _ _ _ _=>rfl
 go_enter Tryz.func103,Tryz.ntmps103
 go_wp2;go_loopw [55,5,6,7] (fun q _ _ _ wr=>∃k:Nat,k<=7/\q=.int .i64 k/\Hid (∀j,j<k->yE d cs j)/\Hid (Below (w.heap.size+4) ((((w.alloc d.box).alloc FZ).alloc (JB d)).alloc (PS d)) wr)) (fun q _ _ _ _=>7-(intOf q).toNat)
 case atStart=>exact⟨0,zon _,rfl,fun j B=>absurd B (by omega),zof _ _⟩
 case round=>
  obtain⟨k,m,rfl,i,hb⟩:=hrel;by_cases f:k<7
  ·obtain⟨G,I,F,H⟩:=zjZ hb.out f;have P:(k:Int)<7:=by omega
   have B0:Hid (Below w.heap.size w wr):=(ze (ze (ze (ze (zof w.heap.size w))))).trans (hb.out.mono (by omega))
   have HC:=hid (r.out k f (wr.alloc (PB (zM d k) (zS k) (yh k) (.func (.func (kY k)) #[d.v] #[]))) (zh B0.out (ze (zof _ _))));have B1:Hid (∀l,Below (wr.alloc (PB (zM d k) (zS k) (yh k) (.func (.func (kY k)) #[d.v] #[]))).heap.size (wr.alloc (PB (zM d k) (zS k) (yh k) (.func (.func (kY k)) #[d.v] #[]))) l->∀o,Below (w.heap.size+4) ((((w.alloc d.box).alloc FZ).alloc (JB d)).alloc (PS d)) (l.alloc o)):=fun l M o=>
    hb.out.trans ((ze (zh (ze (zof wr.heap.size wr)) M)).mono (by have:=hb.out.size;simpa using this))
   have y:Hid (∀C A,qB ((k:Int)+1) (zM d k) (zS k) (yh k) (cs k) C A->(C≠0->∀w',Below w.heap.size w w'->zI d cs w (.returned (.agg #[.int .i64 C,.int .i64 A])) w')/\(C=0->∀j,j<k+1->yE d cs j)):=fun C A hf=>
    ⟨fun x w' hb=>⟨C,A,.inl ⟨k,f,hf,x,i.out⟩,rfl,hb⟩,fun x j B=>by
     by_cases K:j=k
     ·subst K;subst x;exact⟨A,hf⟩
     ·exact i.out j (by omega)⟩
   generalize zM d k=mn at*;generalize zS k=le at*;generalize yh k=mo at*;generalize kY k=jn at*;have t:w.heap.size+3<wr.heap.size:=(zbG hb.out).2.2.2.2;go_wp2_with fail
   refine HC.out.mono ?_;rintro e l ⟨C,A,hf,rfl,h⟩;have c:=hid (y.out C A hf);have b:=hid (B1.out l h (.cells #[.int .i64 C,.int .i64 A] 34));clear h HC y B1 hf G I F H t B0 r;by_cases a:C=0
   ·have J:=hid (c.out.2 a);subst a;clear c;go_wp2;go_roundw
    case rel=>exact⟨k+1,by omega,by go_num,J,b⟩
    case measure=>simp[intOf];omega
   ·have Q:(C !=0)=true:=by simpa using a
    have u:=hid (c.out.1 a);obtain⟨f0,f1,z0,z1,sz⟩:=zbG b.out;have g:=hid (zg1 b.out (.int .i64 C) (.int .i64 A));clear c a hb i b;go_wp2;exact bodyPost_ret (v:=.agg #[.int .i64 C,.int .i64 A]) (by simp[results,Tryz.results103,go_sem, *]) rfl (u.out _ g.out)
  ·have N:k=7:=by omega
   subst N;obtain⟨f0,f1,z0,z1,sz⟩:=zbG hb.out;have u:Hid (∀w',Below w.heap.size w w'->zI d cs w (.returned (.agg #[.int .i64 0,.int .i64 0])) w'):=fun w' hb=>⟨0,0,.inr ⟨i.out,rfl,rfl⟩,rfl,hb⟩
   have g:=hid (zg1 hb.out (.int .i64 0) (.int .i64 0));clear r hb i;go_wp2;exact bodyPost_ret (v:=.agg #[.int .i64 0,.int .i64 0]) (by simp[results,Tryz.results103,go_sem, *]) rfl (u.out _ g.out)
theorem bl2{w w':World}{a:Option Addr}{m c:Nat}(h:Below ((w.alloc (H0 a m c)).alloc F0).heap.size ((w.alloc (H0 a m c)).alloc F0) w'):Below (w.heap.size+2) ((w.alloc (H0 a m c)).alloc F0) w':=by
 simpa using h
theorem zgh(a:Option Addr)(m c:Nat)(w:World)(h:(m:Int)<1\/8<(m:Int)):
 Calls Tryz.prog 57 #[HD a m c] w fun e w'=>e=.returned (.tuple #[.int .i64 0,.agg #[.int .i64 2,.int .i64 (-1)]])/\Below w.heap.size w w':=by
 by_cases d:(m:Int)<1
 ·go_enter Tryz.func57,Tryz.ntmps57
  go_wp2_with fail
  refine(zA _ _ _).mono ?_;rintro e b ⟨rfl,hb⟩;obtain⟨c0,c1,c2,f1,f2,hs⟩:=kE (bl2 hb);go_wp2;exact bodyPost_ret (v:=.tuple #[.int .i64 0,.agg #[.int .i64 2,.int .i64 (-1)]]) (by simp[results,Tryz.results57,go_sem,c1,c2]) rfl ⟨rfl,qj (bl2 hb) _ _⟩
 ·have h2:8<(m:Int):=by omega
  go_enter Tryz.func57,Tryz.ntmps57
  go_wp2_with fail
  refine(zA _ _ _).mono ?_;rintro e b ⟨rfl,hb⟩;obtain⟨c0,c1,c2,f1,f2,hs⟩:=kE (bl2 hb);go_wp2;exact bodyPost_ret (v:=.tuple #[.int .i64 0,.agg #[.int .i64 2,.int .i64 (-1)]]) (by simp[results,Tryz.results57,go_sem,c1,c2]) rfl ⟨rfl,qj (bl2 hb) _ _⟩
theorem zfh(a:Option Addr)(m c i:Nat)(ws:List Int)(w:World)(F:1<=m)(D:m<=8)(hw:Has .i64 w a m ws)(hi:i<m)(b:∀j,j<i->Mth.Fit ws j)(d:¬Mth.Fit ws i):
 Calls Tryz.prog 57 #[HD a m c] w fun e w'=>e=.returned (.tuple #[.int .i64 0,.agg #[.int .i64 6,.int .i64 i]])/\Below w.heap.size w w':=by
 have r:=hid b;clear b;obtain⟨p,o,rfl,l,f⟩:=(hw.alloc (o:=H0 a m c)).alloc (o:=F0) |>.some (by omega)
 have HC:=hid f;clear f hw l;go_enter Tryz.func57,Tryz.ntmps57
 go_wp2;go_loop [4,5] (fun t q=>∃k:Nat,k<=i/\q=.int .i64 k/\t=.int .i64 (Mth.off ws k)) (fun _ q=>m-(intOf q).toNat)
 case atStart=>exact⟨0,zon _,rfl,rfl⟩
 case round=>
  obtain⟨k,C,rfl,rfl⟩:=hrel;have h:=HC.out k (by omega)
  have A:=Mth.fit_off ws k (fun j E=>r.out j (by omega))
  by_cases n:k=i
  ·subst n;unfold Mth.Fit at d;simp only[zoi]at d h;generalize ws[k]?.getD 0=x at*;by_cases B:x<1
   ·go_wp2_with fail
    refine(zA _ _ _).mono ?_;rintro e u ⟨rfl,hb⟩;obtain⟨c0,c1,c2,f1,f2,hs⟩:=kE (bl2 hb);go_wp2;exact bodyPost_ret (v:=.tuple #[.int .i64 0,.agg #[.int .i64 6,.int .i64 k]]) (by simp[results,Tryz.results57,go_sem,c1,c2]) rfl ⟨rfl,qj (bl2 hb) _ _⟩
   ·have y:48<x:=by omega
    clear d;go_wp2_with fail
    refine(zA _ _ _).mono ?_;rintro e u ⟨rfl,hb⟩;obtain⟨c0,c1,c2,f1,f2,hs⟩:=kE (bl2 hb);go_wp2;exact bodyPost_ret (v:=.tuple #[.int .i64 0,.agg #[.int .i64 6,.int .i64 k]]) (by simp[results,Tryz.results57,go_sem,c1,c2]) rfl ⟨rfl,qj (bl2 hb) _ _⟩
  ·have s:=r.out k (by omega)
   unfold Mth.Fit at s;have g:Hid (Mth.off ws (k+1)=Mth.off ws k+(ws.getD k 0).toNat):=rfl;simp only[zoi]at s h g;generalize ws[k]?.getD 0=x at*;go_wp2;go_round
   case rel=>exact⟨k+1,by omega,by go_num,zhs (by rw[g.out];omega)⟩
   case measure=>simp[intOf];omega
theorem zdH(a:Option Addr)(m c:Nat)(ws:List Int)(w:World)(F:1<=m)(G:m<=8)(hw:Has .i64 w a m ws)(d:∀j,j<m->Mth.Fit ws j):
 Calls Tryz.prog 57 #[HD a m c] w fun e w'=>∃x,e=.returned x/\zbp (Mth.off ws m) x/\Below w.heap.size w w':=by
 have u:=hid d;clear d;obtain⟨p,o,rfl,i,b⟩:=(hw.alloc (o:=H0 a m c)).alloc (o:=F0) |>.some (by omega)
 have HC:=hid b;clear b hw i;go_enter Tryz.func57,Tryz.ntmps57
 go_wp2;go_loop [4,5] (fun t q=>∃k:Nat,k<=m/\q=.int .i64 k/\t=.int .i64 (Mth.off ws k)) (fun _ q=>m-(intOf q).toNat)
 case atStart=>exact⟨0,zon _,rfl,rfl⟩
 case round=>
  obtain⟨k,D,rfl,rfl⟩:=hrel;have C:=Mth.fit_off ws k (fun j E=>u.out j (by omega))
  by_cases B:k<m
  ·have s:=u.out k (by omega)
   have r:=HC.out k (by omega)
   unfold Mth.Fit at s;have f:Hid (Mth.off ws (k+1)=Mth.off ws k+(ws.getD k 0).toNat):=rfl;simp only[zoi]at s r f;generalize ws[k]?.getD 0=x at*;go_wp2;go_round
   case rel=>exact⟨k+1,by omega,by go_num,zhs (by rw[f.out];omega)⟩
   case measure=>simp[intOf];omega
  ·have A:k=m:=by omega
   subst A;generalize g:Mth.off ws k=N at*;have l:=hid g;clear g;have h:(N:Int).tmod 8=((N%8:Nat):Int):=rfl;by_cases hr:N%8=0
   ·have n:((N:Int).tmod 8 !=0)=false:=by rw[h,hr];rfl
    by_cases H:(256:Int)<(N:Int)
    ·clear h;go_wp2_with fail
     refine(zA _ _ _).mono ?_;rintro e y ⟨rfl,hb⟩;obtain⟨c0,c1,c2,f1,f2,hs⟩:=kE (bl2 hb);go_wp2;exact bodyPost_ret (v:=.tuple #[.int .i64 0,.agg #[.int .i64 6,.int .i64 (-1)]]) (by simp[results,Tryz.results57,go_sem,c1,c2]) rfl ⟨_,rfl,by rw[l.out];exact zbq N (by omega),qj (bl2 hb) _ _⟩
    ·clear h;go_wp2;exact bodyPost_ret (v:=.tuple #[.int .i64 ((N/8:Nat):Int),.agg #[.int .i64 0,.int .i64 0]]) (by simp[results,Tryz.results57,go_sem]) rfl ⟨_,rfl,by rw[l.out];exact zdG N hr (by omega),ze (ze (zof _ _))⟩
   ·have n:((N:Int).tmod 8 !=0)=true:=by rw[h,bne_iff_ne];omega
    clear h;go_wp2_with fail
    refine(zA _ _ _).mono ?_;rintro e y ⟨rfl,hb⟩;obtain⟨c0,c1,c2,f1,f2,hs⟩:=kE (bl2 hb);go_wp2;exact bodyPost_ret (v:=.tuple #[.int .i64 0,.agg #[.int .i64 6,.int .i64 (-1)]]) (by simp[results,Tryz.results57,go_sem,c1,c2]) rfl ⟨_,rfl,by rw[l.out];exact zbq N (by omega),qj (bl2 hb) _ _⟩
end Go.Proofs.YtdajaaondlekfaaGreat
