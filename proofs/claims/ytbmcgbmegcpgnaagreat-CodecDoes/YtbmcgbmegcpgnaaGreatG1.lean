import Derived.Test.YtbmcgbmegcpgnaaGreatVBase
import Derived.Test.YtbmcgbmegcpgnaaGreatVQWidth
import Derived.Lib.BitFns
import Derived.Test.YtbmcgbmegcpgnaaGreatG0
import Derived.Shelf.SlSortCmp.QuietGrown
import Derived.Laws.BitsAllLaws
import Derived.Deep.RegionHeld3
import Derived.Laws.EntriesVeiled
set_option maxHeartbeats 4000000
set_option maxRecDepth 20000
set_option linter.unusedSimpArgs false
namespace Go.Proofs.YtbmcgbmegcpgnaaGreat
open Go.RowKit
theorem Tryz.info96:(Tryz.prog.info? 96).map (fun i=>(i.zero,i.size,i.bytes))=some (some (.int .u64 0),1,8):=by kernel_rfl
theorem zkC(n:Int)(h:0<=n/\n<18446744073709551616):(Lit.int .u64 n).wf=true:=by
 simp[Lit.wf,IntKind.min,IntKind.max,IntKind.bits,IntKind.signed];omega
theorem Has.nums{w:World}{a:Option Addr}{len:Nat}{zs:List Int}(h:Has .u64 w a len zs):∀n∈zs,0<=n/\n<18446744073709551616:=fun n b=>by
 have:=bounds_u64 (h.2.1 n b);omega
theorem jR{w:World}{base e len:Nat}{v:Value}{b:List Value}(h:w.ownsRow base e 1 v len b):∃a cap,v=.slice a len cap/\len<=cap/\(a=none->len=0/\cap=0):=by
 rcases h.2 with⟨rfl,rfl⟩|⟨g,cap,c,rfl,_,_,d,_⟩
 ·exact⟨none,0,rfl,zos _,fun _=>⟨rfl,rfl⟩⟩
 ·exact⟨_,cap,rfl,d,fun h=>by cases h⟩
end Go.Proofs.YtbmcgbmegcpgnaaGreat
namespace Go.Proofs.YtbmcgbmegcpgnaaGreat.Mth
def bit(zs:List Int)(i:Nat):Bool:=(zs.getD (i/8) 0).toNat.testBit (7-i%8)
def rd(zs:List Int)(t:Nat):Nat->Nat
 |0=>0
 |k+1=>2*rd zs t k+(bit zs (t+k)).toNat
def one(x:Nat)(p:Nat)(c:Bool):Nat:=if c then x|||2^p else x&&& (255-2^p)
def zr3(zs:List Int)(i:Nat)(c:Bool):List Int:=zs.set (i/8) ((one (zs.getD (i/8) 0).toNat (7-i%8) c:Nat):Int)
def wr(zs:List Int)(t n v:Nat):Nat->List Int
 |0=>zs
 |k+1=>zr3 (wr zs t n v k) (t+k) (v.testBit (n-1-k))
theorem zuL(x p:Nat)(c:Bool)(a:x<256)(b:p<8):one x p c<256:=by
 unfold one;split
 ·exact Nat.or_lt_two_pow (n:=8) a (Nat.pow_lt_pow_right (by decide) b)
 ·exact Nat.lt_of_le_of_lt Nat.and_le_left a
theorem zt5(x p q:Nat)(c:Bool)(g:x<256)(f:p<8):(one x p c).testBit q=if q=p then c else x.testBit q:=by
 have b:(255-2^p).testBit q=(decide (q<8)&&!(2^p).testBit q):=by
  have h:=Nat.testBit_two_pow_sub_succ (x:=2^p) (n:=8) (Nat.pow_lt_pow_right (by decide) f) q
  rw[show 2^8-(2^p+1)=255-2^p from by omega]at h
  exact h
 unfold one;by_cases e:q=p
 ·subst e;cases c
  ·simp[Nat.testBit_and,b,Nat.testBit_two_pow_self]
  ·simp[Nat.testBit_or,Nat.testBit_two_pow_self]
 ·have a:(2^p).testBit q=false:=Nat.testBit_two_pow_of_ne (fun h=>e h.symm)
  cases c
  ·rw[if_neg (by decide),Nat.testBit_and,b,a,if_neg e]
   by_cases d:q<8
   ·simp[d]
   ·have:x.testBit q=false:=Nat.testBit_lt_two_pow (zom g (by
     have:=Nat.pow_le_pow_right (n:=2) (by decide) (show 8<=q by omega);simpa using this))
    simp[this]
  ·simp[Nat.testBit_or,a,e]
theorem getD_set(zs:List Int)(j i:Nat)(x:Int):(zs.set j x).getD i 0=if i=j/\j<zs.length then x else zs.getD i 0:=by
 simp only[zoi,List.getElem?_set];by_cases h:j=i
 ·subst h;by_cases a:j<zs.length
  ·simp[a]
  ·simp[a]
 ·have b:¬i=j:=fun e=>h e.symm
  simp[h,b]
theorem zrM(zs:List Int)(i:Nat)(c:Bool):(zr3 zs i c).length=zs.length:=by simp[zr3]
theorem zr4(zs:List Int)(i:Nat)(c:Bool)(h:Bytes zs):Bytes (zr3 zs i c):=by
 intro j;unfold zr3;rw[getD_set];have hb:=h (i/8);split
 ·have:=zuL (zs.getD (i/8) 0).toNat (7-i%8) c (by omega) (by omega)
  omega
 ·exact h j
theorem zs8(zs:List Int)(i j:Nat)(c:Bool)(h:Bytes zs)(hi:i<8*zs.length):bit (zr3 zs i c) j=if j=i then c else bit zs j:=by
 unfold bit zr3;rw[getD_set];have hb:=h (i/8);by_cases e:j/8=i/8
 ·rw[if_pos ⟨e,by omega⟩,zov,zt5 _ _ _ _ (by omega) (by omega),e]
  by_cases a:j=i
  ·subst a;simp
  ·rw[if_neg (by omega),if_neg a]
 ·rw[if_neg (by omega),if_neg (by omega)]
theorem zrp(zs:List Int)(t n v k:Nat):(wr zs t n v k).length=zs.length:=by
 induction k with
 |zero=>rfl
 |succ k ih=>rw[wr,zrM,ih]
theorem zrN(zs:List Int)(t n v k:Nat)(h:Bytes zs):Bytes (wr zs t n v k):=by
 induction k with
 |zero=>exact h
 |succ k ih=>exact zr4 _ _ _ ih
theorem zuM(zs:List Int)(t n v k j:Nat)(h:Bytes zs)(b:t+k<=8*zs.length):
 bit (wr zs t n v k) j=if t<=j/\j<t+k then v.testBit (n-1-(j-t))else bit zs j:=by
 induction k with
 |zero=>rw[if_neg (by omega)];rfl
 |succ k ih=>
  rw[wr,zs8 _ _ _ _ (zrN _ _ _ _ _ h) (by rw[zrp];omega),ih (by omega)]
  by_cases e:j=t+k
  ·subst e;rw[if_pos rfl,if_pos (by omega),show t+k-t=k from by omega]
  ·rw[if_neg e];by_cases a:t<=j/\j<t+k
   ·rw[if_pos a,if_pos (by omega)]
   ·rw[if_neg a,if_neg (by omega)]
theorem ext(c d:List Int)(s:Bytes c)(e:Bytes d)(l:c.length=d.length)(h:∀j,j<8*c.length->bit c j=bit d j):c=d:=by
 apply List.ext_getElem l
 intro i r k;have a:=s i;have b:=e i;have o:c.getD i 0=c[i]:=by simp[zoi,r]
 have f:d.getD i 0=d[i]:=by simp[zoi,k]
 have g:(c.getD i 0).toNat=(d.getD i 0).toNat:=by
  apply Nat.eq_of_testBit_eq
  intro q;by_cases t:q<8
  ·have:=h (8*i+(7-q)) (by omega)
   unfold bit at this;rw[show(8*i+(7-q))/8=i from by omega,show 7-(8*i+(7-q))%8=q from by omega]at this
   exact this
  ·have m:256<=2^q:=by have:=Nat.pow_le_pow_right (n:=2) (by decide) (show 8<=q by omega);simpa using this
   rw[Nat.testBit_lt_two_pow (by omega),Nat.testBit_lt_two_pow (by omega)]
 rw[<-o,<-f];omega
end Go.Proofs.YtbmcgbmegcpgnaaGreat.Mth
namespace Go.Proofs.YtbmcgbmegcpgnaaGreat
open Go.RowKit
def yI(n:Int):Int:=if 1<=n/\n<=64 then((2^n.toNat-1:Nat):Int)else 0
theorem zhZ(k:Nat)(h:k<64):IntKind.u64.wrap (IntKind.u64.wrap (2*((2^k-1:Nat):Int))+1)=((2^(k+1)-1:Nat):Int):=by
 have b:2^k<=2^63:=Nat.pow_le_pow_right (by decide) (by omega)
 have a:1<=2^k:=Nat.one_le_two_pow;rw[IntKind.wrap_u64,IntKind.wrap_u64,Nat.pow_succ];omega
theorem zjW(n:Int)(w:World):
 Calls Tryz.prog 109 #[.int .i64 n] w fun e w'=>e=.returned (.int .u64 (yI n))/\w'=w:=by
 by_cases c:n<=64
 ·by_cases i:1<=n
  ·have a:Hid (yI n=((2^n.toNat-1:Nat):Int)):=by unfold yI;rw[if_pos ⟨i,c⟩];rfl
   generalize yI n=M at*;go_enter Tryz.func109,Tryz.ntmps109
   go_wp2;go_loop [3,4] (fun v q=>∃k:Nat,k<=n.toNat/\q=.int .i64 k/\v=.int .u64 ((2^k-1:Nat):Int)) (fun _ q=>n.toNat-(intOf q).toNat)
   case atStart=>exact⟨0,zon _,rfl,rfl⟩
   case round=>
    obtain⟨k,j,rfl,rfl⟩:=hrel;have b:Hid (k<64->IntKind.u64.wrap (IntKind.u64.wrap (2*((2^k-1:Nat):Int))+1)=((2^(k+1)-1:Nat):Int)):=zhZ k;generalize d:((2^k-1:Nat):Int)=V at*;have f:Hid (((2^k-1:Nat):Int)=V):=d;clear d;by_cases h:(k:Int)<n
    ·go_wp2;go_round
     case rel=>exact⟨k+1,by omega,by go_num,zhs (b.out (by omega))⟩
     case measure=>simp[intOf];omega
    ·go_wp2;go_ret;exact⟨xv (by rw[a.out,<-f.out,show k=n.toNat from by omega]),rfl⟩
  ·have a:Hid (yI n=0):=by unfold yI;rw[if_neg (by omega)];rfl
   generalize yI n=M at*;go_enter Tryz.func109,Tryz.ntmps109
   go_wp2;go_loop [3,4] (fun v q=>q=.int .i64 0/\v=.int .u64 0) (fun _ _=>0)
   case atStart=>exact⟨rfl,rfl⟩
   case round=>
    obtain⟨rfl,rfl⟩:=hrel;have g:¬0<n:=by omega
    go_wp2;go_ret;exact⟨xv (by rw[a.out]),rfl⟩
 ·have a:Hid (yI n=0):=by unfold yI;rw[if_neg (by omega)];rfl
  generalize yI n=M at*;go_enter Tryz.func109,Tryz.ntmps109
  go_wp2;go_loop [3,4] (fun v q=>q=.int .i64 0/\v=.int .u64 0) (fun _ _=>0)
  case atStart=>exact⟨rfl,rfl⟩
  case round=>
   obtain⟨rfl,rfl⟩:=hrel;have g:0<n:=by omega
   go_wp2;go_ret;exact⟨xv (by rw[a.out]),rfl⟩
end Go.Proofs.YtbmcgbmegcpgnaaGreat
namespace Go.Proofs.YtbmcgbmegcpgnaaGreat.Mth
def off(ws:List Int):Nat->Nat
 |0=>0
 |i+1=>off ws i+(ws.getD i 0).toNat
def jn(a ws:List Int)(len:Nat):Nat->List Int
 |0=>List.replicate len 0
 |i+1=>wr (jn a ws len i) (off ws i) (ws.getD i 0).toNat (a.getD i 0).toNat (ws.getD i 0).toNat
end Go.Proofs.YtbmcgbmegcpgnaaGreat.Mth
namespace Go.Proofs.YtbmcgbmegcpgnaaGreat
open Go.RowKit Mth
def II(zs:List Int):List Value:=zs.map (Value.int .i64)
theorem Tryz.infoInt:(Tryz.prog.info? 3).map (fun i=>(i.zero,i.size,i.bytes))=some (some (.int .i64 0),1,8):=by kernel_rfl
theorem zge(zs:List Int):∀u∈II zs,u.oneCell'=true:=by
 intro u a;simp only[II,zoJ]at a;obtain⟨x,_,rfl⟩:=a;rfl
theorem zaN{w:World}{ad:Addr}{m:Nat}{zs:List Int}(h:Has .i64 w (some ad) m zs):∀(j:Nat) (u:Value),(II zs)[j]?=some u->w.cell? (ad.add j)=some u:=by
 intro j u c;have a:j<zs.length:=by
  have:=(zok.1 c).1;simpa[II]using this
 have f:=h.1;obtain⟨b,off,e,_,d⟩:=h.some (by omega)
 simp only[zoo]at e;subst e;rw[Addr.add_lit,d j (by omega)]
 simp only[II,zoy,zoh a,Option.map_some,zoo]at c;simp only[zoi,zoh a,zoC,c]
theorem kJ{w:World}{base len:Nat}{a:Option Addr}{cap:Nat}{zs:List Int}(h:w.ownsRow base 3 1 (.slice a len cap) len (II zs))(hb:∀n∈zs,(Lit.int .i64 n).wf=true):Has .i64 w a len zs:=by
 have b:zs.length=len:=by simpa[II]using h.1
 rcases h.2 with⟨e,rfl⟩|⟨g,cap,c,e,_⟩
 ·exact⟨b,hb,.inl (zoG b)⟩
 ·simp only[zox]at e;obtain⟨rfl,_,rfl⟩:=e;refine⟨b,hb,.inr ⟨g,0,rfl,(h.lt g rfl).2,fun i hi=>?_⟩⟩
  rw[zoK,h.cellAt i (by omega)]
  simp only[II,zoy,zoi];rw[zoh (by omega)];rfl
theorem zky{ops:Array Oper}{o:Oper}{a:Act}{w:World}{K:Act->World->Prop}{Q:Exit->Act->World->Prop}{E:Prop}(f:o.guard=none)(s x:Operand)
 (n:o.op=.call {callee:=.builtin .append,args:= #[s,x],argTypes:= #[23,23]}) (m c:Nat) (zs:List Int) (ad:Option Addr)
 (hs:a.eval s=.slice none 0 0) (l:a.eval x=.slice ad m c) (y:ad=none->m=0/\c=0) (hz:Has .i64 w ad m zs) (d:m<=10000000)
 (h:∀v' w',w'.ownsRow w.heap.size 3 1 v' m (II zs)->Below w.heap.size w w'->K (a.put o.dst v') w'):
 if Region.wanted o (yielded ops a.tmps)=true then Oper.wp Tryz.prog o a w K Q else E:=by
 have hw:Region.wanted o (yielded ops a.tmps)=true:=by simp[Region.wanted,f]
 rw[if_pos hw];obtain⟨q,hi,g,j,i⟩:=info_parts Tryz.infoInt;cases ad with
 |none=>
  obtain⟨rfl,rfl⟩:=y rfl;have e:zs=[]:=zoG hz.1;subst e;have b:=run_append_owned_none (P:=Tryz.prog) (w:=w) w.heap.size 23 o.type 3 q 1 Tryz.underlying23 hi (.slice none 0 0) 0 [] (zoH _ _ _ _);unfold Oper.wp execOp;simp only[n,resolve,invoke,builtin,Sem.run_bind,Sem.run_pure,Result.andThen_ok,List.map_toArray,List.map_cons,List.map_nil,hs,l,b];exact h _ _ (zoH _ _ _ _) (zof _ _)
 |some ad=>
  refine wp_append_own w s x 23 n w.heap.size 3 q (.int .i64 0) 1 8 Tryz.underlying23 hi g j i rfl (by decide) (.slice none 0 0) 0 [] hs (zoH _ _ _ _) ad m c (II zs) l (by have:=hz.1;simp[II];omega) (zaN hz) (zge zs) (by unfold maxLen;omega) (by omega) (zos _) ?_
  intro v' w' r t _;rw[zoK,List.nil_append]at r;exact h v' w' r ((zof _ _).grown t (zos _) (by intro k u;simp[Value.ownBlock]at u))
theorem qi(w:World)(x:Int)(b:(Lit.int .i64 x).wf=true):Has .i64 (w.alloc (.cells #[.int .i64 x] 3)) (some ⟨w.heap.size,0,none⟩) 1 [x]:=by
 refine⟨rfl,?_,.inr ⟨w.heap.size,0,rfl,by simp,fun i hi=>?_⟩⟩
 ·intro n a;simp only[zoD,zoA,or_false]at a;subst a;exact b
 ·have:i=0:=by omega
  subst this;simp
end Go.Proofs.YtbmcgbmegcpgnaaGreat
namespace Go.Proofs.YtbmcgbmegcpgnaaGreat
open Go.RowKit
theorem zbl{w:World}{b:Nat}{x y:Int}(o:Int)(f:(if x≠0 then x else y)=o)(h:w.cell? ⟨b,0,none⟩=some (.int .i64 x))(i:w.cell? ⟨b,1,none⟩=some (.int .i64 y)):
 Calls Tryz.prog 88 #[.slice (some ⟨b,0,none⟩) 2 2] w fun e w'=>e=.returned (.int .i64 o)/\w'=w:=by
 have d:(x≠0/\o=x)\/(x=0/\o=y):=by rw[<-f];split<;>omega
 have c:=hid d;clear d f;go_enter Tryz.func88,Tryz.ntmps88
 go_wp2;go_loop [8] (fun q=>q=.int .i64 0\/(q=.int .i64 1/\x=0)\/(q=.int .i64 2/\x=0/\y=0)) (fun q=>2-(intOf q).toNat)
 case atStart=>exact .inl rfl
 case round=>
  rcases hrel with rfl|⟨rfl,rfl⟩|⟨rfl,rfl,rfl⟩
  ·by_cases a:x=0
   ·subst a;go_wp2;go_round
    case rel=>simp
    case measure=>simp[intOf]
   ·have g:(x !=0)=true:=by simpa using a
    have e:o=x:=by have:=c.out;omega
    subst e;go_wp2;go_ret;exact⟨rfl,rfl⟩
  ·by_cases a:y=0
   ·subst a;go_wp2;go_round
    case rel=>simp
    case measure=>simp[intOf]
   ·have g:(y !=0)=true:=by simpa using a
    have e:o=y:=by have:=c.out;omega
    subst e;go_wp2;go_ret;exact⟨rfl,rfl⟩
  ·have e:o=0:=by have:=c.out;omega
   subst e;go_wp2;go_ret;exact⟨rfl,rfl⟩
theorem zbN(a:Option Addr)(n c:Nat)(k:Int)(w:World):Calls Tryz.prog 86 #[.slice a n c,.int .i64 k] w fun e w'=>e=.returned (.bool (decide (0<=k/\k<(n:Int))))/\w'=w:=by
 by_cases d:0<=k
 ·have g:=zoY d;by_cases f:k<(n:Int)
  ·have i:=zoY f;have b:=hid (zoY (⟨d,f⟩:0<=k/\k<(n:Int)));go_enter Tryz.func86,Tryz.ntmps86
   go_wp2;go_ret;exact⟨by first|rfl|(rw[b.out];rfl),rfl⟩
  ·have i:=zoX f;have b:=hid (zoX (fun h=>f h.2:¬(0<=k/\k<(n:Int))))
   go_enter Tryz.func86,Tryz.ntmps86
   go_wp2;go_ret;exact⟨by first|rfl|(rw[b.out];rfl),rfl⟩
 ·have g:=zoX d;have b:=hid (zoX (fun h=>d h.1:¬(0<=k/\k<(n:Int))))
  go_enter Tryz.func86,Tryz.ntmps86
  go_wp2;go_ret;exact⟨by first|rfl|(rw[b.out];rfl),rfl⟩
theorem zh8(a:Option Addr)(n c:Nat)(k:Int)(w:World):Calls Tryz.prog 131 #[.slice a n c,.int .i64 k] w fun e w'=>e=.returned (.bool (decide (0<=k/\k<(n:Int))))/\w'=w:=by
 by_cases d:0<=k
 ·have g:=zoY d;by_cases f:k<(n:Int)
  ·have i:=zoY f;have b:=hid (zoY (⟨d,f⟩:0<=k/\k<(n:Int)));go_enter Tryz.func131,Tryz.ntmps131
   go_wp2;go_ret;exact⟨by first|rfl|(rw[b.out];rfl),rfl⟩
  ·have i:=zoX f;have b:=hid (zoX (fun h=>f h.2:¬(0<=k/\k<(n:Int))))
   go_enter Tryz.func131,Tryz.ntmps131
   go_wp2;go_ret;exact⟨by first|rfl|(rw[b.out];rfl),rfl⟩
 ·have g:=zoX d;have b:=hid (zoX (fun h=>d h.1:¬(0<=k/\k<(n:Int))))
  go_enter Tryz.func131,Tryz.ntmps131
  go_wp2;go_ret;exact⟨by first|rfl|(rw[b.out];rfl),rfl⟩
@[reducible] def LV(d:PlanD)(x:StateD)(n:Int):Value:=.agg #[.slice d.heads.a d.heads.n d.heads.c,.slice d.mta.a d.mta.n d.mta.c,.slice d.states.a d.states.n d.states.c,.slice d.acts.a d.acts.n d.acts.c,.slice d.tabs.a d.tabs.n d.tabs.c,.slice d.nodes.a d.nodes.n d.nodes.c,.slice d.out.a d.out.n d.out.c,.int .i64 x.head,.int .i64 x.r.h,.int .i64 x.r.f,.slice x.cases.a x.cases.n x.cases.c,.int .i64 x.els,.int .i64 n]
def yF(b:Nat)(a to:Int):Int:=if to=1000\/to=1001 then 0 else if¬(0<=to/\to<(b:Int))then 1 else if to<=a then 11 else 0
theorem zg3(d:PlanD)(x:StateD)(n to:Int)(w:World):Calls Tryz.prog 91 #[LV d x n,.int .i64 to] w fun e w'=>e=.returned (.int .i64 (yF d.states.n n to))/\Below w.heap.size w w':=by
 have k:∀o,Below w.heap.size w (w.alloc o):=fun o=>ze (zof _ _)
 have b:Hid (∀w',Calls Tryz.prog 131 #[.slice d.states.a d.states.n d.states.c,.int .i64 to] w' fun e l=>e=.returned (.bool (decide (0<=to/\to<(d.states.n:Int))))/\l=w'):=fun w'=>zh8 _ _ _ _ _
 by_cases g:to=1000
 ·subst g;have f:Hid (yF d.states.n n 1000=0):=by simp[Hid,yF]
  clear b;go_enter Tryz.func91,Tryz.ntmps91
  go_wp2;go_ret;exact⟨by rw[f.out];rfl,k _⟩
 by_cases i:to=1001
 ·subst i;have f:Hid (yF d.states.n n 1001=0):=by simp[Hid,yF]
  clear b;go_enter Tryz.func91,Tryz.ntmps91
  go_wp2;go_ret;exact⟨by rw[f.out];rfl,k _⟩
 have r:(to==1000)=false:=by simpa using g
 have s:(to==1001)=false:=by simpa using i
 by_cases h:0<=to/\to<(d.states.n:Int)
 ·rw[zoY h]at b;by_cases j:to<=n
  ·have f:Hid (yF d.states.n n to=11):=by simp only[Hid,yF,g,i,or_self,if_false,h,and_self,not_true_eq_false,j,if_true]
   have q:=zoY j;clear g i h j;go_enter Tryz.func91,Tryz.ntmps91
   go_wp2_with fail
   refine(b.out _).mono ?_;rintro e m ⟨rfl,rfl⟩;clear b;go_wp2;go_ret;exact⟨by rw[f.out];rfl,k _⟩
  ·have f:Hid (yF d.states.n n to=0):=by simp only[Hid,yF,g,i,or_self,if_false,h,and_self,not_true_eq_false,j]
   have q:=zoX j;clear g i h j;go_enter Tryz.func91,Tryz.ntmps91
   go_wp2_with fail
   refine(b.out _).mono ?_;rintro e m ⟨rfl,rfl⟩;clear b;go_wp2;go_ret;exact⟨by rw[f.out];rfl,k _⟩
 ·have f:Hid (yF d.states.n n to=1):=by simp only[Hid,yF,g,i,or_self,if_false,h,not_false_eq_true,if_true]
  rw[zoX h]at b;clear g i h;go_enter Tryz.func91,Tryz.ntmps91
  go_wp2_with fail
  refine(b.out _).mono ?_;rintro e m ⟨rfl,rfl⟩;clear b;go_wp2;go_ret;exact⟨by rw[f.out];rfl,k _⟩
theorem zu{α :Type}{k:Nat}{P: α->World->Nat->Nat->Prop}{w:World}{s:QSl}{S:List α}(h:QRow k P w s S){i:Nat}(hi:i<s.n):∃g off x,s.a=some ⟨g,off,none⟩/\S[i]?=some x/\P x w g (off+i*k):=by
 have b:i<S.length:=by rw[h.1];exact hi
 obtain⟨g,off,e,c⟩:=h.2 i _ (zoh b);exact⟨g,off,_,e,zoh b,c⟩
@[reducible] def PlanD.box(d:PlanD):Obj:=.cells #[.slice d.heads.a d.heads.n d.heads.c,.slice d.mta.a d.mta.n d.mta.c,.slice d.states.a d.states.n d.states.c,.slice d.acts.a d.acts.n d.acts.c,.slice d.tabs.a d.tabs.n d.tabs.c,.slice d.nodes.a d.nodes.n d.nodes.c,.slice d.out.a d.out.n d.out.c] 29
end Go.Proofs.YtbmcgbmegcpgnaaGreat
namespace Go.Proofs.YtbmcgbmegcpgnaaGreat
open Go.RowKit Mth
def ku(x:Int):Int:=(Lib.bitLen x.toNat:Int)
theorem zg9{x:Int}(h:256<=x)(a:x<18446744073709551616):ku x=8+ku (x/256):=by
 unfold ku;rw[Lib.bitLen_shift8 x.toNat (by omega) (by omega),show(x/256).toNat=x.toNat/256 by omega]
 omega
theorem zeb{x:Int}(h:65536<=x)(a:x<18446744073709551616):ku x=16+ku (x/65536):=by
 unfold ku;rw[Lib.bitLen_shift16 x.toNat (by omega) (by omega),show(x/65536).toNat=x.toNat/65536 by omega]
 omega
theorem zec{x:Int}(h:4294967296<=x)(a:x<18446744073709551616):ku x=32+ku (x/4294967296):=by
 unfold ku;rw[Lib.bitLen_shift32 x.toNat (by omega) (by omega),show(x/4294967296).toNat=x.toNat/4294967296 by omega]
 omega
theorem xY{y:Int}(b:0<=y)(a:y<=255):Lib.len8 y=ku y/\0<=ku y/\ku y<=8:=
 ⟨Lib.len8_of y b a,by unfold ku;omega,by have:=Lib.bitLen_le8' y b a;unfold ku;omega⟩
theorem zdF(x:Int)(w:World)(j:0<=x)(k:x<18446744073709551616):Calls Tryz.prog 130 #[.int .u64 x] w fun e w'=>e=.returned (.int .i64 (ku x))/\w'=w:=by
 generalize hz:ku x=z;have i:=hid hz;clear hz;by_cases a:4294967296<=x
 ·by_cases b:65536<=x/4294967296
  ·by_cases c:256<=x/4294967296/65536
   ·have g:0<=x/4294967296/65536/256:=by omega
    have f:x/4294967296/65536/256<=255:=by omega
    have h:=hid (xY g f);go_enter Tryz.func130,Tryz.ntmps130
    go_wp2;go_ret;refine⟨congrArg Ending.returned (congrArg (Value.int IntKind.i64) ?_),rfl⟩;have hz:=i.out;have d:=h.out;rw[zec a (by omega),zeb b (by omega),zg9 c (by omega)]at hz
    rw[d.1];unfold wrap64;omega
   ·have g:0<=x/4294967296/65536:=by omega
    have f:x/4294967296/65536<=255:=by omega
    have h:=hid (xY g f);go_enter Tryz.func130,Tryz.ntmps130
    go_wp2;go_ret;refine⟨congrArg Ending.returned (congrArg (Value.int IntKind.i64) ?_),rfl⟩;have hz:=i.out;have d:=h.out;rw[zec a (by omega),zeb b (by omega)]at hz
    rw[d.1];unfold wrap64;omega
  ·by_cases c:256<=x/4294967296
   ·have g:0<=x/4294967296/256:=by omega
    have f:x/4294967296/256<=255:=by omega
    have h:=hid (xY g f);go_enter Tryz.func130,Tryz.ntmps130
    go_wp2;go_ret;refine⟨congrArg Ending.returned (congrArg (Value.int IntKind.i64) ?_),rfl⟩;have hz:=i.out;have d:=h.out;rw[zec a (by omega),zg9 c (by omega)]at hz
    rw[d.1];unfold wrap64;omega
   ·have g:0<=x/4294967296:=by omega
    have f:x/4294967296<=255:=by omega
    have h:=hid (xY g f);go_enter Tryz.func130,Tryz.ntmps130
    go_wp2;go_ret;refine⟨congrArg Ending.returned (congrArg (Value.int IntKind.i64) ?_),rfl⟩;have hz:=i.out;have d:=h.out;rw[zec a (by omega)]at hz
    rw[d.1];unfold wrap64;omega
 ·by_cases b:65536<=x
  ·by_cases c:256<=x/65536
   ·have g:0<=x/65536/256:=by omega
    have f:x/65536/256<=255:=by omega
    have h:=hid (xY g f);go_enter Tryz.func130,Tryz.ntmps130
    go_wp2;go_ret;refine⟨congrArg Ending.returned (congrArg (Value.int IntKind.i64) ?_),rfl⟩;have hz:=i.out;have d:=h.out;rw[zeb b (by omega),zg9 c (by omega)]at hz
    rw[d.1];unfold wrap64;omega
   ·have g:0<=x/65536:=by omega
    have f:x/65536<=255:=by omega
    have h:=hid (xY g f);go_enter Tryz.func130,Tryz.ntmps130
    go_wp2;go_ret;refine⟨congrArg Ending.returned (congrArg (Value.int IntKind.i64) ?_),rfl⟩;have hz:=i.out;have d:=h.out;rw[zeb b (by omega)]at hz
    rw[d.1];unfold wrap64;omega
  ·by_cases c:256<=x
   ·have g:0<=x/256:=by omega
    have f:x/256<=255:=by omega
    have h:=hid (xY g f);go_enter Tryz.func130,Tryz.ntmps130
    go_wp2;go_ret;refine⟨congrArg Ending.returned (congrArg (Value.int IntKind.i64) ?_),rfl⟩;have hz:=i.out;have d:=h.out;rw[zg9 c (by omega)]at hz
    rw[d.1];unfold wrap64;omega
   ·have g:0<=x:=by omega
    have f:x<=255:=by omega
    have h:=hid (xY g f);go_enter Tryz.func130,Tryz.ntmps130
    go_wp2;go_ret;refine⟨congrArg Ending.returned (congrArg (Value.int IntKind.i64) ?_),rfl⟩;have hz:=i.out;have d:=h.out;rw[d.1];unfold wrap64;omega
end Go.Proofs.YtbmcgbmegcpgnaaGreat
namespace Go.Proofs.YtbmcgbmegcpgnaaGreat
open Go.RowKit
structure zq (w : World) where
 to : World
 h : Below w.heap.size w to
theorem zi{P:Program}{e:Nat}{Q:Exit->Act->World->Prop}{a:Act}{w:World}{l:List Oper}(b:P.follows .mixedOrders=true)(d:Region.lexB .any l.toArray=true)
 (h:wpQuiet P l.toArray (fun w'=>∃p:zq w,w'=p.to) (fun c=>∀w',(∃p:zq w,w'=p.to)->Q .normal c w') l a):(Code.region e l.toArray true).wp P Q a w:=
 wp_region_quiet (C:=fun w'=>∃p:zq w,w'=p.to) b d ⟨⟨w.drew,(zof _ _).drew⟩,rfl⟩ (by simpa using h)
theorem zT{P:Program}{f:FuncId}{args:Array Value}{w:World}{v:Value}(p:zq w)(h:Calls P f args p.to fun e w'=>e=.returned v/\Below p.to.heap.size p.to w'):Calls P f args p.to fun e a=>e=.returned v/\∃p:zq w,a=p.to:=
 h.mono fun _ a ⟨b,hb⟩=>⟨b,⟨a,zh p.h hb⟩,rfl⟩
theorem zt{P:Program}{f:FuncId}{args:Array Value}{w:World}{v:Value}(p:zq w)(h:Calls P f args p.to fun e w'=>e=.returned v/\w'=p.to):Calls P f args p.to fun e a=>e=.returned v/\∃p:zq w,a=p.to:=
 h.mono fun _ _ ⟨b,hb⟩=>⟨b,p,hb⟩
theorem zm{w:World}{g o:Nat}{v:Value}(h:w.cell? ⟨g,o,none⟩=some v)(p:zq w):p.to.cell? ⟨g,o,none⟩=some v:=za h p.h
end Go.Proofs.YtbmcgbmegcpgnaaGreat
namespace Go.Proofs.YtbmcgbmegcpgnaaGreat.Mth
def cst(r:Nat):Nat:=(r/2) ^^^ (r%2*3988292384)
theorem zuO{r:Nat}(h:r<4294967296):cst r<4294967296:=by
 unfold cst;exact Nat.xor_lt_two_pow (n:=32) (by omega) (by have:r%2<2:=Nat.mod_lt _ (by decide);rcases(show r%2=0\/r%2=1 by omega)with e|e<;>rw[e]<;>decide)
def cstN:Nat->Nat->Nat
 |0,r=>r
 |n+1,r=>cst (cstN n r)
theorem cstN_lt(n:Nat){r:Nat}(h:r<4294967296):cstN n r<4294967296:=by
 induction n with
 |zero=>exact h
 |succ n ih=>exact zuO ih
def crcB(r:Nat)(x:Nat):Nat:=cstN 8 (r ^^^ x)
theorem xor_lt32{r x:Nat}(b:r<4294967296)(a:x<256):r ^^^ x<4294967296:=Nat.xor_lt_two_pow (n:=32) (by omega) (by omega)
theorem zuf{r x:Nat}(b:r<4294967296)(a:x<256):crcB r x<4294967296:=cstN_lt 8 (xor_lt32 b a)
def crcF(r:Nat)(l:List Int):Nat:=l.foldl (fun r x=>crcB r x.toNat) r
def Byt(l:List Int):Prop:=∀x∈l,0<=x/\x<256
theorem crcF_lt{l:List Int}(a:Byt l){r:Nat}(b:r<4294967296):crcF r l<4294967296:=by
 induction l generalizing r with
 |nil=>exact b
 |cons x l ih=>exact ih (fun y c=>a y (List.mem_cons_of_mem _ c)) (zuf b (by have:=a x List.mem_cons_self;omega))
def crc(l:List Int):Nat:=4294967295-crcF 4294967295 l
theorem crc_lt(l:List Int):crc l<4294967296:=by unfold crc;omega
def four(s:Nat):List Int:=[((s%256:Nat):Int),((s/256%256:Nat):Int),((s/65536%256:Nat):Int),((s/16777216%256:Nat):Int)]
end Go.Proofs.YtbmcgbmegcpgnaaGreat.Mth
namespace Go.Proofs.YtbmcgbmegcpgnaaGreat
open Go.RowKit
theorem zqH{w:World}{a:Option Addr}{n:Nat}{zs:List Int}(h:Has .u8 w a n zs):Mth.Byt zs:=fun x b=>by
 have:=bounds_u8 (h.2.1 x b);omega
theorem zvq(s:Nat)(x:Int)(hs:s<4294967296)(a:0<=x)(b:x<256):bits .xor .u32 (s:Int) x=((s ^^^ x.toNat:Nat):Int):=by
 have:=u32_xor (s:Int) x (by omega) (by omega) a (by omega)
 simpa using this
theorem zt0(s:Nat)(hs:s<4294967296):4294967295 ^^^ s=4294967295-s:=by
 have e:4294967295-s=2^32-(s+1):=by omega
 rw[e,show(4294967295:Nat)=2^32-1 from rfl]
 apply Nat.eq_of_testBit_eq
 intro i;rw[Nat.testBit_xor,Nat.testBit_two_pow_sub_one,Nat.testBit_two_pow_sub_succ (by omega)]
 by_cases h:i<32
 ·simp[h]
 ·have:s.testBit i=false:=Nat.testBit_lt_two_pow (zom hs (show 2^32<=2^i from Nat.pow_le_pow_right (by decide) (by omega)))
  simp[h,this]
theorem zvr(s:Nat)(hs:s<4294967296):bits .xor .u32 IntKind.u32.max (s:Int)=((4294967295-s:Nat):Int):=by
 have:=u32_xor IntKind.u32.max (s:Int) (by decide) (by decide) (by omega) (by omega)
 rw[this,show IntKind.u32.max.toNat=4294967295 from rfl,zov,zt0 s hs]
theorem zt1(r:Nat)(a:r<4294967296):bits .and .u32 (r:Int) 1=((r%2:Nat):Int):=by
 have:=u32_and (r:Int) 1 (by omega) (by omega) (by decide) (by decide)
 rw[this,zov];show((r&&& 1:Nat):Int)=_;rw[Nat.and_one_is_mod]
theorem zu7(r:Nat)(b:r<4294967296):bits .xor .u32 ((r:Int)/2) ((r:Int)%2*3988292384)=((Mth.cst r:Nat):Int):=by
 rw[show(r:Int)/2=((r/2:Nat):Int)by omega,show(r:Int)%2*3988292384=((r%2*3988292384:Nat):Int)by omega]
 have a:r%2*3988292384<4294967296:=by
  have:r%2<2:=Nat.mod_lt _ (by decide)
  omega
 have:=u32_xor ((r/2:Nat):Int) ((r%2*3988292384:Nat):Int) (by omega) (by omega) (by omega) (by omega)
 rw[this,zov,zov];rfl
theorem zrI(a:Option Addr)(n c:Nat)(zs:List Int)(w:World)(K:n<=10000000)(hz:Has .u8 w a n zs):
 Calls Tryz.prog 13 #[.slice a n c] w fun e w'=>e=.returned (.int .u32 (Mth.crc zs))/\w'=w:=by
 have y:=hid hz;have g:=hid (zqH hz);have d:=hid hz.1;clear hz;go_enter Tryz.func13,Tryz.ntmps13
 go_wp2;go_loop [9,3,5,6,17] (fun q s _ _ _=>∃k:Nat,k<=n/\q=.int .i64 k/\s=.int .u32 (Mth.crcF 4294967295 (zs.take k))) (fun q _ _ _ _=>n-(intOf q).toNat)
 case atStart=>exact⟨0,zon _,rfl,rfl⟩
 case round=>
  obtain⟨k,J,rfl,rfl⟩:=hrel;have m:Mth.crcF 4294967295 (zs.take k)<4294967296:=Mth.crcF_lt (fun x l=>g.out x (List.mem_of_mem_take l)) (by decide)
  by_cases f:k<n
  ·have C:(k:Int)<(n:Int):=by omega
   obtain⟨b,off,rfl,_,o⟩:=y.out.some (by omega)
   have l:=o k f;have hb:=g.out (zs.getD k 0) (by rw[zoi,zoh (by rw[d.out];exact f)];exact List.getElem_mem _)
   have h:Hid (Mth.crcF 4294967295 (zs.take (k+1))=Mth.cstN 8 (Mth.crcF 4294967295 (zs.take k) ^^^ (zs.getD k 0).toNat)):=by
    show _=_;rw[zoI,zoh (show k<zs.length by rw[d.out];exact f)]
    simp only[Mth.crcF,List.foldl_append,Option.toList_some,List.foldl_cons,List.foldl_nil,Mth.crcB];rw[zoi,zoh (show k<zs.length by rw[d.out];exact f),zoC]
   generalize Mth.crcF 4294967295 (zs.take k)=S at*;simp only[zoi]at l hb h;generalize zs[k]?.getD 0=x at*;have t:=zvq S x m hb.1 hb.2;have G:S ^^^ x.toNat<4294967296:=Mth.xor_lt32 m (by omega)
   generalize S ^^^ x.toNat=T at*;clear o;go_wp2;go_loop [17,3,6] (fun q s _=>∃j:Nat,j<=8/\q=.int .i64 j/\s=.int .u32 (Mth.cstN j T)) (fun q _ _=>8-(intOf q).toNat)
   case atStart=>exact⟨0,zon _,rfl,rfl⟩
   case round=>
    obtain⟨j,I,rfl,rfl⟩:=hrel;by_cases D:j<8
    ·have A:(j:Int)<8:=by omega
     have u:=Mth.cstN_lt j G;have i:Hid (Mth.cstN (j+1) T=Mth.cst (Mth.cstN j T)):=rfl;generalize Mth.cstN j T=r at*;have L:=zt1 r u;have hs:=zu7 r u;generalize Mth.cst r=r2 at*;go_wp2;go_round
     case rel=>exact⟨j+1,by omega,by go_num,by rw[i.out]⟩
     case measure=>simp[intOf];omega
    ·have F:j=8:=by omega
     subst F;go_wp2;go_round
     case rel=>exact⟨k+1,by omega,by go_num,by rw[h.out]⟩
     case measure=>simp[intOf];omega
  ·have E:k=n:=by omega
   subst E;have B:Hid (Mth.crcF 4294967295 (zs.take k)=Mth.crcF 4294967295 zs):=by show _=_;rw[List.take_of_length_le (by rw[d.out];exact zos _)]
   have H:=zvr _ m;generalize Mth.crcF 4294967295 (zs.take k)=S at*;go_wp2;go_ret;exact⟨xv (by rw[B.out];rfl),rfl⟩
end Go.Proofs.YtbmcgbmegcpgnaaGreat
namespace Go.Proofs.YtbmcgbmegcpgnaaGreat
open Go.RowKit
theorem zis{d:PlanD}{w:World}(b:d.lie w){e:Option Addr}{an:Nat}{zs:List Int}(hz:Has .i64 w e an zs)(h:Int):∀n∈zE d h zs,(Lit.int .i64 n).wf=true:=by
 intro n a;unfold zE at a;split at a
 ·exact b.ms.2.1 n a
 split at a
 ·exact hz.2.1 n a
 split at a
 ·simp only[zoD,zoA,or_false]at a;subst a;decide
 split at a
 ·simp at a
 ·rename_i h1 h2 h3 h4
  obtain⟨k,rfl⟩:∃k:Nat,h=k:=⟨h.toNat,by omega⟩
  obtain⟨g,off,_,c⟩:=zd9 b (k:=k) (by omega)
  rw[zov]at a;exact c.2.2.1 n a
theorem zcV{d:PlanD}{w:World}(b:d.lie w){c:Option Addr}{an:Nat}{zs:List Int}(hz:Has .i64 w c an zs)(h f:Int):(Lit.int .i64 (yU d h f zs)).wf=true:=by
 unfold yU;split
 ·decide
 ·rename_i h0
  have a:f.toNat<(zE d h zs).length:=by omega
  rw[zoi,zoh a,zoC];exact zis b hz h _ (List.getElem_mem a)
def zdb(d:PlanD)(r:RefD):Int:=yU d r.h r.f []
def yw(d:PlanD)(ks:List RefD):List Int:=ks.map (zdb d)
def stp(d:PlanD)(ks:List RefD)(k:Nat):List Int:=(ks.take k).map (zdb d)++List.replicate (ks.length-k) 0
theorem zkw(d:PlanD)(ks:List RefD):stp d ks 0=List.replicate ks.length 0:=by simp[stp]
theorem zlS(d:PlanD)(ks:List RefD):stp d ks ks.length=yw d ks:=by simp[stp,yw]
theorem zkx{d:PlanD}{ks:List RefD}{k:Nat}{r:RefD}(h:ks[k]?=some r):(stp d ks k).set k (zdb d r)=stp d ks (k+1):=by
 obtain⟨c,e⟩:=zok.1 h;subst e;unfold stp;apply List.ext_getElem?
 intro j;rw[List.getElem?_set];by_cases b:k=j
 ·subst b;rw[if_pos rfl,if_pos (by simp;omega)]
  rw[zoL (by simp;omega)]
  simp[zoh c]
 ·rw[if_neg b];by_cases a:j<k
  ·rw[zoL (by simp;omega),zoL (by simp;omega)]
   simp only[zoy,List.getElem?_take,if_pos a,if_pos (show j<k+1 by omega)]
  ·rw[zoO (by simp;omega),zoO (by simp;omega)]
   simp only[zoE,List.length_take,List.getElem?_replicate];rw[Nat.min_eq_left (by omega),Nat.min_eq_left (by omega)]
   by_cases f:j<ks.length
   ·rw[if_pos (by omega),if_pos (by omega)]
   ·rw[if_neg (by omega),if_neg (by omega)]
theorem znK(m:Nat):(madeCells #[Value.int .i64 0] m).toList=II (List.replicate m 0):=by
 have h:=toList_madeCells_one (.int .i64 0) m;simp only[II,List.map_replicate];exact h
theorem zn5{w:World}{base g m cap i:Nat}{a:List Int}{x:Int}(h:w.ownsRow base 3 1 (.slice (some ⟨g,0,none⟩) m cap) m (II a)):
 (w.setCell ⟨g,i,none⟩ (.int .i64 x)).ownsRow base 3 1 (.slice (some ⟨g,0,none⟩) m cap) m (II (a.set i x)):=by
 have b:=(h.stored i (.int .i64 x)).1;simp only[II,List.map_set];exact b
@[reducible] def TabD.v(t:TabD):Value:=.agg #[.int .i64 t.kind,.slice t.keys.a t.keys.n t.keys.c,.slice t.acts.a t.acts.n t.acts.c,.int .i64 t.cap,.int .i64 t.dflt,.slice t.args.a t.args.n t.args.c]
@[reducible] def TabD.box(t:TabD):Obj:=.cells #[.int .i64 t.kind,.slice t.keys.a t.keys.n t.keys.c,.slice t.acts.a t.acts.n t.acts.c,.int .i64 t.cap,.int .i64 t.dflt,.slice t.args.a t.args.n t.args.c] 63
theorem jx{d:PlanD}{t:TabD}{w wr:World}(hb:Below (w.heap.size+2) ((w.alloc d.box).alloc t.box) wr):
 (∀i,wr.cell? ⟨w.heap.size,i,none⟩=(#[.slice d.heads.a d.heads.n d.heads.c,.slice d.mta.a d.mta.n d.mta.c,.slice d.states.a d.states.n d.states.c,.slice d.acts.a d.acts.n d.acts.c,.slice d.tabs.a d.tabs.n d.tabs.c,.slice d.nodes.a d.nodes.n d.nodes.c,.slice d.out.a d.out.n d.out.c]:Array Value)[i]?)/\wr.cell? ⟨w.heap.size+1,1,none⟩=some (.slice t.keys.a t.keys.n t.keys.c):=
 ⟨fun i=>(hb.cell (p:=⟨w.heap.size,i,none⟩) (by simp)).trans ((zoe _ _ _ (by simp)).trans (zod _ _ _ _ rfl)),(hb.cell (p:=⟨w.heap.size+1,1,none⟩) (by simp)).trans ((zod _ _ _ _ (by simp)).trans rfl)⟩
def xt(w:World)(L:List Int)(e:Ending)(w':World):Prop:=∃a c,e=.returned (.slice a L.length c)/\(a=none->L.length=0/\c=0)/\Has .i64 w' a L.length L/\Below w.heap.size w w'
theorem zff(d:PlanD)(t:TabD)(w:World)(hl:d.lie w)(u:QRow 2 RefD.lie w t.keys t.ks)(X:t.keys.n<=10000)(h0:0<t.keys.n):
 Calls Tryz.prog 95 #[d.v,t.v] w (xt w (yw d t.ks)):=by
 obtain⟨i0,hi,L,J,M⟩:=info_parts Tryz.infoInt;obtain⟨g,off,_,Q,_⟩:=zu u h0;have l:=hid u.1;have Z:=hid hl;have HK:=hid u;clear hl u;go_enter Tryz.func95,Tryz.ntmps95
 go_wp2_with (at_make;refine wpList_make_full _ rfl _ _ 23 rfl w.heap.size 3 i0 (.int .i64 0) 1 Tryz.underlying23 hi L J _ _ _ _ t.keys.n rfl rfl ?m1 ?m2 ?m3 ?m4 ?m5 ?_)
 case m1=>rfl
 case m2=>rfl
 case m3=>rw[M];omega
 case m4=>unfold maxLen;omega
 case m5=>simp;omega
 intro H i A;have D:((w.alloc d.box).alloc t.box).grownBy H none:=by unfold TabD.box;rw[Q];exact A
 clear A;have s:Below (w.heap.size+2) ((w.alloc d.box).alloc t.box) H:=(zof _ _).grown D (by simp) (by intro k u;cases u)
 rw[znK]at i;have Y:Hid (H.ownsRow w.heap.size 3 1 (.slice (some ⟨w.heap.size+1+1,0,none⟩) t.keys.n t.keys.n) t.keys.n (II (stp d t.ks 0))):=by rw[zkw,l.out];exact i
 have V:=hid s;have q1:=(jx s).2;clear s i D;go_wp2;go_loopw [15,6,7] (fun q _ _ wr=>∃k:Nat,k<=t.keys.n/\q=.int .i64 k/\Hid (wr.ownsRow w.heap.size 3 1 (.slice (some ⟨w.heap.size+1+1,0,none⟩) t.keys.n t.keys.n) t.keys.n (II (stp d t.ks k)))/\Hid (Below (w.heap.size+2) ((w.alloc d.box).alloc t.box) wr)) (fun q _ _ _=>t.keys.n-(intOf q).toNat)
 case atStart=>exact⟨0,zon _,rfl,Y,V⟩
 case round=>
  obtain⟨k,u,rfl,C,hb⟩:=hrel;have E:Hid (Below w.heap.size w wr):=(ze (ze (zof w.heap.size w))).trans (hb.out.mono (by omega))
  clear q1 Y V;by_cases N:k<t.keys.n
  ·obtain⟨g',B,r,m,T,⟨⟨r0,_⟩,⟨r1,_⟩⟩⟩:=zu (HK.out.step RefD.keeps E.out) N;obtain⟨rfl,rfl⟩:g=g'/\off=B:=by rw[Q]at m;simpa using m
   clear m;have a0:(k:Int)<(t.keys.n:Int):=by omega
   have K:=hid (zkx (d:=d) T);have b:=(jx hb.out).1;have bo:∀o,Below wr.heap.size wr (wr.alloc o):=fun o=>ze (zof _ _)
   have p0:∀o,(wr.alloc o).cell? ⟨w.heap.size,0,none⟩=some (.slice d.heads.a d.heads.n d.heads.c):=fun o=>za (b 0) (bo o)
   have p1:∀o,(wr.alloc o).cell? ⟨w.heap.size,1,none⟩=some (.slice d.mta.a d.mta.n d.mta.c):=fun o=>za (b 1) (bo o)
   have p2:∀o,(wr.alloc o).cell? ⟨w.heap.size,2,none⟩=some (.slice d.states.a d.states.n d.states.c):=fun o=>za (b 2) (bo o)
   have p3:∀o,(wr.alloc o).cell? ⟨w.heap.size,3,none⟩=some (.slice d.acts.a d.acts.n d.acts.c):=fun o=>za (b 3) (bo o)
   have p4:∀o,(wr.alloc o).cell? ⟨w.heap.size,4,none⟩=some (.slice d.tabs.a d.tabs.n d.tabs.c):=fun o=>za (b 4) (bo o)
   have p5:∀o,(wr.alloc o).cell? ⟨w.heap.size,5,none⟩=some (.slice d.nodes.a d.nodes.n d.nodes.c):=fun o=>za (b 5) (bo o)
   have p6:∀o,(wr.alloc o).cell? ⟨w.heap.size,6,none⟩=some (.slice d.out.a d.out.n d.out.c):=fun o=>za (b 6) (bo o)
   have P:Hid (∀o,Calls Tryz.prog 129 #[d.v,.agg #[.int .i64 r.h,.int .i64 r.f],.slice none 0 0] (wr.alloc o) fun e w'=>e=.returned (.int .i64 (zdb d r))/\Below (wr.alloc o).heap.size (wr.alloc o) w'):=fun o=>zaw d r.h r.f none 0 0 [] _ ((Z.out.step E.out).step (bo o)) (zW _ _)
   have I:=hid bo;have G:w.heap.size+1+1<wr.heap.size:=(C.out.lt _ rfl).2;clear b T bo;generalize zdb d r=R at*;go_wp2_with fail
   refine(P.out _).mono ?_;rintro e w2 ⟨rfl,x⟩;have j:=zU (zU C.out (I.out _)) x;have y:Below (w.heap.size+2) ((w.alloc d.box).alloc t.box) w2:=hb.out.trans ((zh (I.out _) x).mono (by have:=hb.out.size;simpa using this))
   have a1:w2.cell? ⟨w.heap.size+1+1,k,none⟩=some (.int .i64 ((stp d t.ks k).getD k 0)):=by
    rw[j.cellAt k (by omega)]
    have:k<(stp d t.ks k).length:=by have:=j.1;simp only[II,zoE]at this;omega
    simp only[II,zoy,zoi,zoh this];rfl
   have a2:w2.frozen? ⟨w.heap.size+1+1,k,none⟩=false:=j.frozenAt _;have O:Hid ((w2.setCell ⟨w.heap.size+1+1,k,none⟩ (.int .i64 R)).ownsRow w.heap.size 3 1 (.slice (some ⟨w.heap.size+1+1,0,none⟩) t.keys.n t.keys.n) t.keys.n (II (stp d t.ks (k+1)))):=by rw[<-K.out];exact zn5 j
   have F:=hid (y.setCell (p:=⟨w.heap.size+1+1,k,none⟩) (by simp) (.int .i64 R))
   clear x j y P p0 p1 p2 p3 p4 p5 p6 r0 r1 G I E C hb;generalize(stp d t.ks k).getD k 0=old at*;go_wp2;go_roundw
   case rel=>exact⟨k+1,by omega,by go_num,O,F⟩
   case measure=>simp[intOf];omega
  ·have U:k=t.keys.n:=by omega
   have HF:Hid (xt w (yw d t.ks) (.returned (.slice (some ⟨w.heap.size+1+1,0,none⟩) t.keys.n t.keys.n)) wr):=by
    have S:(yw d t.ks).length=t.keys.n:=by rw[yw,zoE,l.out]
    refine⟨some ⟨w.heap.size+1+1,0,none⟩,t.keys.n,by rw[S],by simp,?_,E.out⟩
    have W:=C.out;rw[U,<-l.out,zlS,l.out]at W;rw[S];refine kJ W fun n X=>?_
    obtain⟨r,_,rfl⟩:=zoJ.1 X;exact zcV Z.out (zW _ w) _ _
   clear C hb;subst U;go_wp2;go_ret;exact HF.out
theorem zfg(d:PlanD)(t:TabD)(w:World)(f:QRow 2 RefD.lie w t.keys t.ks)(l:t.keys.n=0):
 Calls Tryz.prog 95 #[d.v,t.v] w (xt w (yw d t.ks)):=by
 obtain⟨y,hi,i,r,j⟩:=info_parts Tryz.infoInt;have e:t.ks=[]:=zoG (f.1.trans l);have x:Hid (∀w',Below w.heap.size w w'->xt w (yw d t.ks) (.returned (.slice (some ⟨w.heap.size+1+1,0,none⟩) 0 0)) w'):=fun w' hb=>by
  rw[e];exact⟨some ⟨w.heap.size+1+1,0,none⟩,0,rfl,by simp,⟨rfl,by simp[yw],.inl (by simp[yw])⟩,hb⟩
 unfold TabD.v;rw[l];clear f e l;go_enter Tryz.func95,Tryz.ntmps95
 go_wp2_with (at_make;refine wpList_make_full _ rfl _ _ 23 rfl w.heap.size 3 y (.int .i64 0) 1 Tryz.underlying23 hi i r _ _ _ _ 0 rfl rfl ?m1 ?m2 ?m3 ?m4 ?m5 ?_)
 case m1=>rfl
 case m2=>rfl
 case m3=>rw[j];omega
 case m4=>unfold maxLen;omega
 case m5=>simp;omega
 intro g _ b;have s:Hid (∀o u,w.alloc o |>.alloc u |>.grownBy g none->Below w.heap.size w g):=fun o u h=>(ze (ze (zof w.heap.size w))).grown h (by simp;omega) (by intro k f;cases f)
 have m:=hid (s.out _ _ b);have q1:g.cell? ⟨w.heap.size+1,1,none⟩=some (.slice t.keys.a 0 t.keys.c):=((zof _ _).grown b (zos _) (by intro k f;cases f)).cell (p:=⟨w.heap.size+1,1,none⟩) (by simp) |>.trans ((zod _ _ _ _ (by simp)).trans rfl)
 clear b s;go_wp2;go_loopw [15,6,7] (fun q _ _ wr=>q=.int .i64 0/\Hid (g=wr)) (fun _ _ _ _=>0)
 case atStart=>exact⟨rfl,rfl⟩
 case round=>
  obtain⟨rfl,hw⟩:=hrel;obtain rfl:=hw.out;clear hw;go_wp2;go_ret;exact x.out _ m.out
theorem zgd(d:PlanD)(t:TabD)(w:World)(b:d.lie w)(a:QRow 2 RefD.lie w t.keys t.ks)(c:t.keys.n<=10000):
 Calls Tryz.prog 95 #[d.v,t.v] w (xt w (yw d t.ks)):=by
 by_cases e:t.keys.n=0
 ·exact zfg d t w a e
 ·exact zff d t w b a c (by omega)
theorem zd8{w w':World}{s t:Nat}{v0 v1 v2 v3 v4 v5 v6 g i j c e d f a:Value}(h:w.cell? ⟨s,3,none⟩=some v0/\w.cell? ⟨s,4,none⟩=some v1/\w.cell? ⟨t,0,none⟩=some v2/\w.cell? ⟨t,1,none⟩=some v3/\w.cell? ⟨t,2,none⟩=some v4/\w.cell? ⟨t,3,none⟩=some v5/\w.cell? ⟨t,4,none⟩=some v6/\w.cell? ⟨t,5,none⟩=some g/\w.cell? ⟨t,6,none⟩=some i/\w.cell? ⟨t,7,none⟩=some j/\w.cell? ⟨t,8,none⟩=some c/\w.cell? ⟨t,9,none⟩=some e/\w.cell? ⟨t,10,none⟩=some d/\w.cell? ⟨t,11,none⟩=some f/\w.cell? ⟨t,12,none⟩=some a)(b:Below w.heap.size w w'):w'.cell? ⟨s,3,none⟩=some v0/\w'.cell? ⟨s,4,none⟩=some v1/\w'.cell? ⟨t,0,none⟩=some v2/\w'.cell? ⟨t,1,none⟩=some v3/\w'.cell? ⟨t,2,none⟩=some v4/\w'.cell? ⟨t,3,none⟩=some v5/\w'.cell? ⟨t,4,none⟩=some v6/\w'.cell? ⟨t,5,none⟩=some g/\w'.cell? ⟨t,6,none⟩=some i/\w'.cell? ⟨t,7,none⟩=some j/\w'.cell? ⟨t,8,none⟩=some c/\w'.cell? ⟨t,9,none⟩=some e/\w'.cell? ⟨t,10,none⟩=some d/\w'.cell? ⟨t,11,none⟩=some f/\w'.cell? ⟨t,12,none⟩=some a:=
 ⟨za (h.1) b,za (h.2.1) b,za (h.2.2.1) b,za (h.2.2.2.1) b,za (h.2.2.2.2.1) b,za (h.2.2.2.2.2.1) b,za (h.2.2.2.2.2.2.1) b,za (h.2.2.2.2.2.2.2.1) b,za (h.2.2.2.2.2.2.2.2.1) b,za (h.2.2.2.2.2.2.2.2.2.1) b,za (h.2.2.2.2.2.2.2.2.2.2.1) b,za (h.2.2.2.2.2.2.2.2.2.2.2.1) b,za (h.2.2.2.2.2.2.2.2.2.2.2.2.1) b,za (h.2.2.2.2.2.2.2.2.2.2.2.2.2.1) b,za (h.2.2.2.2.2.2.2.2.2.2.2.2.2.2) b⟩
end Go.Proofs.YtbmcgbmegcpgnaaGreat
