import Derived.Test.YtdajaaondlekfaaGreatVBase
import Derived.Test.YtdajaaondlekfaaGreatG0
import Derived.Shelf.SlSortCmp.QuietGrown
import Derived.Lib.BitFns
set_option maxHeartbeats 2000000
set_option maxRecDepth 20000
set_option linter.unusedSimpArgs false
namespace Go.Proofs.YtdajaaondlekfaaGreat
open Go.RowKit
def UU(zs:List Int):List Value:=zs.map (Value.int .u64)
theorem zkC(n:Int)(h:0<=n/\n<18446744073709551616):(Lit.int .u64 n).wf=true:=by
 simp[Lit.wf,IntKind.min,IntKind.max,IntKind.bits,IntKind.signed];omega
theorem zdc{w:World}{base len:Nat}{v:Value}{zs:List Int}(h:w.ownsRow base 75 1 v len (UU zs))(hb:∀n∈zs,0<=n/\n<18446744073709551616):∃a cap,v=.slice a len cap/\Has .u64 w a len zs:=by
 have b:zs.length=len:=by simpa[UU]using h.1
 rcases h.2 with⟨rfl,rfl⟩|⟨g,cap,d,rfl,_⟩
 ·exact⟨none,0,rfl,b,fun n c=>zkC n (hb n c),.inl (zoG b)⟩
 ·refine⟨some ⟨g,0,none⟩,cap,rfl,b,fun n c=>zkC n (hb n c),.inr ⟨g,0,rfl,(h.lt g rfl).2,fun i hi=>?_⟩⟩
  rw[zoK,h.cellAt i (by omega)]
  simp only[UU,zoy,zoi];rw[zoh (by omega)];rfl
theorem Has.nums{w:World}{a:Option Addr}{len:Nat}{zs:List Int}(h:Has .u64 w a len zs):∀n∈zs,0<=n/\n<18446744073709551616:=fun n b=>by
 have:=bounds_u64 (h.2.1 n b);omega
theorem zm4{w:World}{base n:Nat}{v:Value}{a:List Int}{x y:Int}(h:w.ownsRow base 75 1 v (n+1) (UU a++[.int .u64 x]))(e:x=y):w.ownsRow base 75 1 v (n+1) (UU (a++[y])):=by
 subst e;simpa[UU]using h
theorem jR{w:World}{base e len:Nat}{v:Value}{xs:List Value}(h:w.ownsRow base e 1 v len xs):∃a cap,v=.slice a len cap/\len<=cap/\(a=none->len=0/\cap=0):=by
 rcases h.2 with⟨rfl,rfl⟩|⟨g,cap,b,rfl,_,_,c,_⟩
 ·exact⟨none,0,rfl,zos _,fun _=>⟨rfl,rfl⟩⟩
 ·exact⟨_,cap,rfl,c,fun h=>by cases h⟩
theorem ziu{w:World}{base len:Nat}{a:Option Addr}{cap:Nat}{zs:List Int}(h:w.ownsRow base 75 1 (.slice a len cap) len (UU zs))(hb:∀n∈zs,0<=n/\n<18446744073709551616):Has .u64 w a len zs:=by
 obtain⟨d,c,e,b⟩:=zdc h hb;simp only[zox]at e;rw[e.1];exact b
def From(B:Nat)(a:Option Addr)(n:Nat):Prop:=0<n->∃b off,a=some ⟨b,off,none⟩/\B<=b/\off=0
theorem zkD{w:World}{base e n c:Nat}{a:Option Addr}{xs:List Value}(h:w.ownsRow base e 1 (.slice a n c) n xs):From base a n:=by
 intro h0;rcases h.2 with⟨_,e⟩|⟨g,cap,b,e,hb,_⟩
 ·omega
 ·simp only[zox]at e;exact⟨g,0,e.1,hb,rfl⟩
theorem zbl{w:World}{b:Nat}{x y:Int}(o:Int)(d:(if x≠0 then x else y)=o)(h0:w.cell? ⟨b,0,none⟩=some (.int .i64 x))(g:w.cell? ⟨b,1,none⟩=some (.int .i64 y)):
 Calls Tryz.prog 172 #[.slice (some ⟨b,0,none⟩) 2 2] w fun e w'=>e=.returned (.int .i64 o)/\w'=w:=by
 have f:(x≠0/\o=x)\/(x=0/\o=y):=by rw[<-d];split<;>omega
 have c:=hid f;clear f d;go_enter Tryz.func172,Tryz.ntmps172
 go_wp2;go_loop [8] (fun q=>q=.int .i64 0\/(q=.int .i64 1/\x=0)\/(q=.int .i64 2/\x=0/\y=0)) (fun q=>2-(intOf q).toNat)
 case atStart=>exact .inl rfl
 case round=>
  rcases hrel with rfl|⟨rfl,rfl⟩|⟨rfl,rfl,rfl⟩
  ·by_cases a:x=0
   ·subst a;go_wp2;go_round
    case rel=>simp
    case measure=>simp[intOf]
   ·have hd:(x !=0)=true:=by simpa using a
    have e:o=x:=by have:=c.out;omega
    subst e;go_wp2;go_ret;exact⟨rfl,rfl⟩
  ·by_cases a:y=0
   ·subst a;go_wp2;go_round
    case rel=>simp
    case measure=>simp[intOf]
   ·have hd:(y !=0)=true:=by simpa using a
    have e:o=y:=by have:=c.out;omega
    subst e;go_wp2;go_ret;exact⟨rfl,rfl⟩
  ·have e:o=0:=by have:=c.out;omega
   subst e;go_wp2;go_ret;exact⟨rfl,rfl⟩
theorem zbN(a:Option Addr)(n c:Nat)(k:Int)(w:World):Calls Tryz.prog 170 #[.slice a n c,.int .i64 k] w fun e w'=>e=.returned (.bool (decide (0<=k/\k<(n:Int))))/\w'=w:=by
 by_cases h0:0<=k
 ·have d:=zoY h0;by_cases b:k<(n:Int)
  ·have f:=zoY b;have hr:=hid (zoY (⟨h0,b⟩:0<=k/\k<(n:Int)));go_enter Tryz.func170,Tryz.ntmps170
   go_wp2;go_ret;exact⟨by first|rfl|(rw[hr.out];rfl),rfl⟩
  ·have f:=zoX b;have hr:=hid (zoX (fun h=>b h.2:¬(0<=k/\k<(n:Int))))
   go_enter Tryz.func170,Tryz.ntmps170
   go_wp2;go_ret;exact⟨by first|rfl|(rw[hr.out];rfl),rfl⟩
 ·have d:=zoX h0;have hr:=hid (zoX (fun h=>h0 h.1:¬(0<=k/\k<(n:Int))))
  go_enter Tryz.func170,Tryz.ntmps170
  go_wp2;go_ret;exact⟨by first|rfl|(rw[hr.out];rfl),rfl⟩
theorem zh8(a:Option Addr)(n c:Nat)(k:Int)(w:World):Calls Tryz.prog 201 #[.slice a n c,.int .i64 k] w fun e w'=>e=.returned (.bool (decide (0<=k/\k<(n:Int))))/\w'=w:=by
 by_cases h0:0<=k
 ·have d:=zoY h0;by_cases b:k<(n:Int)
  ·have f:=zoY b;have hr:=hid (zoY (⟨h0,b⟩:0<=k/\k<(n:Int)));go_enter Tryz.func201,Tryz.ntmps201
   go_wp2;go_ret;exact⟨by first|rfl|(rw[hr.out];rfl),rfl⟩
  ·have f:=zoX b;have hr:=hid (zoX (fun h=>b h.2:¬(0<=k/\k<(n:Int))))
   go_enter Tryz.func201,Tryz.ntmps201
   go_wp2;go_ret;exact⟨by first|rfl|(rw[hr.out];rfl),rfl⟩
 ·have d:=zoX h0;have hr:=hid (zoX (fun h=>h0 h.1:¬(0<=k/\k<(n:Int))))
  go_enter Tryz.func201,Tryz.ntmps201
  go_wp2;go_ret;exact⟨by first|rfl|(rw[hr.out];rfl),rfl⟩
@[reducible] def LV(d:PlanD)(x:StateD)(n:Int):Value:=.agg #[.slice d.heads.a d.heads.n d.heads.c,.slice d.mta.a d.mta.n d.mta.c,.slice d.states.a d.states.n d.states.c,.slice d.acts.a d.acts.n d.acts.c,.slice d.tabs.a d.tabs.n d.tabs.c,.slice d.nodes.a d.nodes.n d.nodes.c,.slice d.out.a d.out.n d.out.c,.int .i64 x.head,.int .i64 x.r.h,.int .i64 x.r.f,.slice x.cases.a x.cases.n x.cases.c,.int .i64 x.els,.int .i64 n]
def yF(b:Nat)(a to:Int):Int:=if to=1000\/to=1001 then 0 else if¬(0<=to/\to<(b:Int))then 1 else if to<=a then 11 else 0
theorem zg3(d:PlanD)(x:StateD)(n to:Int)(w:World):Calls Tryz.prog 175 #[LV d x n,.int .i64 to] w fun e w'=>e=.returned (.int .i64 (yF d.states.n n to))/\Below w.heap.size w w':=by
 have g:∀o,Below w.heap.size w (w.alloc o):=fun o=>ze (zof _ _)
 have HC:Hid (∀w',Calls Tryz.prog 201 #[.slice d.states.a d.states.n d.states.c,.int .i64 to] w' fun e h=>e=.returned (.bool (decide (0<=to/\to<(d.states.n:Int))))/\h=w'):=fun w'=>zh8 _ _ _ _ _
 by_cases h0:to=1000
 ·subst h0;have hr:Hid (yF d.states.n n 1000=0):=by simp[Hid,yF]
  clear HC;go_enter Tryz.func175,Tryz.ntmps175
  go_wp2;go_ret;exact⟨by rw[hr.out];rfl,g _⟩
 by_cases b:to=1001
 ·subst b;have hr:Hid (yF d.states.n n 1001=0):=by simp[Hid,yF]
  clear HC;go_enter Tryz.func175,Tryz.ntmps175
  go_wp2;go_ret;exact⟨by rw[hr.out];rfl,g _⟩
 have b0:(to==1000)=false:=by simpa using h0
 have k:(to==1001)=false:=by simpa using b
 by_cases h2:0<=to/\to<(d.states.n:Int)
 ·rw[zoY h2]at HC;by_cases f:to<=n
  ·have hr:Hid (yF d.states.n n to=11):=by simp only[Hid,yF,h0,b,or_self,if_false,h2,and_self,not_true_eq_false,f,if_true]
   have j:=zoY f;clear h0 b h2 f;go_enter Tryz.func175,Tryz.ntmps175
   go_wp2_with fail
   refine(HC.out _).mono ?_;rintro e i ⟨rfl,rfl⟩;clear HC;go_wp2;go_ret;exact⟨by rw[hr.out];rfl,g _⟩
  ·have hr:Hid (yF d.states.n n to=0):=by simp only[Hid,yF,h0,b,or_self,if_false,h2,and_self,not_true_eq_false,f]
   have j:=zoX f;clear h0 b h2 f;go_enter Tryz.func175,Tryz.ntmps175
   go_wp2_with fail
   refine(HC.out _).mono ?_;rintro e i ⟨rfl,rfl⟩;clear HC;go_wp2;go_ret;exact⟨by rw[hr.out];rfl,g _⟩
 ·have hr:Hid (yF d.states.n n to=1):=by simp only[Hid,yF,h0,b,or_self,if_false,h2,not_false_eq_true,if_true]
  rw[zoX h2]at HC;clear h0 b h2;go_enter Tryz.func175,Tryz.ntmps175
  go_wp2_with fail
  refine(HC.out _).mono ?_;rintro e i ⟨rfl,rfl⟩;clear HC;go_wp2;go_ret;exact⟨by rw[hr.out];rfl,g _⟩
end Go.Proofs.YtdajaaondlekfaaGreat
namespace Go.Proofs.YtdajaaondlekfaaGreat.Mth
def bit(zs:List Int)(i:Nat):Bool:=(zs.getD (i/8) 0).toNat.testBit (7-i%8)
def one(x:Nat)(p:Nat)(c:Bool):Nat:=if c then x|||2^p else x&&& (255-2^p)
def put1(zs:List Int)(i:Nat)(c:Bool):List Int:=zs.set (i/8) ((one (zs.getD (i/8) 0).toNat (7-i%8) c:Nat):Int)
def wr(zs:List Int)(t n v:Nat):Nat->List Int
 |0=>zs
 |k+1=>put1 (wr zs t n v k) (t+k) (v.testBit (n-1-k))
theorem getD_set(zs:List Int)(j i:Nat)(x:Int):(zs.set j x).getD i 0=if i=j/\j<zs.length then x else zs.getD i 0:=by
 simp only[zoi,List.getElem?_set];by_cases h:j=i
 ·subst h;by_cases h2:j<zs.length
  ·simp[h2]
  ·simp[h2]
 ·have a:¬i=j:=fun e=>h e.symm
  simp[h,a]
end Go.Proofs.YtdajaaondlekfaaGreat.Mth
namespace Go.Proofs.YtdajaaondlekfaaGreat.Mth
def off(ws:List Int):Nat->Nat
 |0=>0
 |i+1=>off ws i+(ws.getD i 0).toNat
def Wide(ws:List Int)(i:Nat):Prop:=1<=ws.getD i 0/\ws.getD i 0<=64
def jn(a ws:List Int)(len:Nat):Nat->List Int
 |0=>List.replicate len 0
 |i+1=>wr (jn a ws len i) (off ws i) (ws.getD i 0).toNat (a.getD i 0).toNat (ws.getD i 0).toNat
theorem off_mono(ws:List Int)(i k:Nat)(h:i<=k):off ws i<=off ws k:=by
 induction k with
 |zero=>rw[show i=0 from by omega];exact zos _
 |succ k ih=>
  by_cases e:i=k+1
  ·subst e;exact zos _
  ·have:=ih (by omega);simp only[off];omega
end Go.Proofs.YtdajaaondlekfaaGreat.Mth
namespace Go.Proofs.YtdajaaondlekfaaGreat.Mth
def bo(zs:List Int)(k:Nat):List Int:=(List.range k).map fun i=>((bit zs i).toNat:Int)
def nb(v n k:Nat):List Int:=(List.range k).map fun j=>((v.testBit (n-1-j)).toNat:Int)
def num(l:List Int):Nat->Nat
 |0=>0
 |k+1=>2*num l k+(l.getD k 0).toNat
def pl(zs:List Int)(t n v:Nat):List Int:=(bo zs (8*zs.length)).take t++nb v n n++(bo zs (8*zs.length)).drop (t+n)
end Go.Proofs.YtdajaaondlekfaaGreat.Mth
namespace Go.Proofs.YtdajaaondlekfaaGreat.Mth
abbrev Fit(ws:List Int)(i:Nat):Prop:=1<=ws.getD i 0/\ws.getD i 0<=48
def Head(ws:List Int)(m:Nat):Prop:=1<=m/\m<=8/\(∀j,j<m->Fit ws j)/\off ws m%8=0/\off ws m<=256
theorem Fit.wide{ws:List Int}{i:Nat}(h:Fit ws i):Wide ws i:=by
 unfold Fit at h;unfold Wide;omega
theorem fit_off(ws:List Int)(k:Nat)(h:∀j,j<k->Fit ws j):off ws k<=48*k:=by
 induction k with
 |zero=>simp[off]
 |succ k ih=>
  have:=ih (fun j a=>h j (by omega))
  have h2:=h k (by omega)
  unfold Fit at h2;simp only[off];omega
end Go.Proofs.YtdajaaondlekfaaGreat.Mth
namespace Go.Proofs.YtdajaaondlekfaaGreat.Wk
structure Sets where
 must : Nat
 may : Nat
 least : Nat
 most : Nat
 there : Bool
def zero:Sets:=⟨0,0,0,0,false⟩
structure IsAgg (P : Nat -> Nat -> Prop) (s : Sets) : Prop where
 th : s.there = true ↔ ∃ t b, P t b
 no : s.there = false -> s = zero
 mu : s.there = true -> ∀ k, s.must.testBit k = true ↔ ∀ t b, P t b -> t.testBit k = true
 ma : s.there = true -> ∀ k, s.may.testBit k = true ↔ ∃ t b, P t b /\ t.testBit k = true
 bd : ∀ t b, P t b -> s.least <= b /\ b <= s.most
 le : s.there = true -> ∃ t, P t s.least
 mo : s.there = true -> ∃ t, P t s.most
theorem IsAgg.congr{P Q:Nat->Nat->Prop}{s:Sets}(h:IsAgg P s)(e:∀t b,P t b↔Q t b):IsAgg Q s:=by
 have:P=Q:=by funext t b;exact propext (e t b)
 rw[<-this];exact h
theorem IsAgg.one{P:Nat->Nat->Prop}{s i:Sets}(h:IsAgg P s)(f:IsAgg P i):s=i:=by
 cases g:s.there with
 |false=>
  have h2:i.there=false:=by
   cases h2:i.there with
   |false=>rfl
   |true=>
    have:=h.th.2 (f.th.1 h2);rw[g]at this;exact this.symm
  rw[h.no g,f.no h2]
 |true=>
  have h2:=f.th.2 (h.th.1 g);have l:s.must=i.must:=Nat.eq_of_testBit_eq fun k=>Bool.eq_iff_iff.2 ((h.mu g k).trans (f.mu h2 k).symm)
  have o:s.may=i.may:=Nat.eq_of_testBit_eq fun k=>Bool.eq_iff_iff.2 ((h.ma g k).trans (f.ma h2 k).symm)
  obtain⟨t1,m⟩:=h.le g;obtain⟨t2,l2⟩:=f.le h2;obtain⟨B,j⟩:=h.mo g;obtain⟨u,n⟩:=f.mo h2;have D:=(h.bd _ _ l2).1;have r:=(f.bd _ _ m).1;have x:=(h.bd _ _ n).2;have C:=(f.bd _ _ j).2;obtain⟨a,b,c,d,e⟩:=s;obtain⟨w,A,y,t,q⟩:=i;simp only at*;simp only[Sets.mk.injEq];exact⟨l,o,by omega,by omega,by rw[g,h2]⟩
theorem IsAgg.none{P:Nat->Nat->Prop}(h:∀t b,¬P t b):IsAgg P zero:=
 ⟨⟨fun e=>absurd e (by decide),fun⟨t,b,e⟩=>absurd e (h t b)⟩,fun _=>rfl,fun e=>absurd e (by decide),fun e=>absurd e (by decide),fun t b e=>absurd e (h t b),fun e=>absurd e (by decide),fun e=>absurd e (by decide)⟩
def joinS(s t:Sets):Sets:=if s.there=true then⟨s.must&&& t.must,s.may|||t.may,min s.least t.least,max s.most t.most,true⟩else t
theorem IsAgg.join{P Q:Nat->Nat->Prop}{s t:Sets}(h:IsAgg P s)(k:IsAgg Q t)(d:t.there=true):IsAgg (fun a b=>P a b\/Q a b) (joinS s t):=by
 unfold joinS;cases hs:s.there with
 |false=>
  have j:∀a b,¬P a b:=fun a b e=>by
   have:=h.th.2 ⟨a,b,e⟩;rw[hs]at this;cases this
  simp only[Bool.false_eq_true,if_false];exact k.congr fun a b=>⟨.inr,fun e=>e.resolve_left (j a b)⟩
 |true=>
  simp only[if_true];refine⟨⟨fun _=>?_,fun _=>rfl⟩,fun e=>by simp at e,fun _ i=>?_,fun _ i=>?_,fun a b e=>?_,fun _=>?_,fun _=>?_⟩
  ·obtain⟨a,b,e⟩:=h.th.1 hs;exact⟨a,b,.inl e⟩
  ·simp only[Nat.testBit_and,Bool.and_eq_true];rw[h.mu hs i,k.mu d i];exact⟨fun⟨g,h2⟩ a b e=>e.elim (g a b) (h2 a b),fun e=>⟨fun a b x=>e a b (.inl x),fun a b x=>e a b (.inr x)⟩⟩
  ·simp only[Nat.testBit_or,Bool.or_eq_true];rw[h.ma hs i,k.ma d i];constructor
   ·rintro(⟨a,b,x,y⟩|⟨a,b,x,y⟩)
    ·exact⟨a,b,.inl x,y⟩
    ·exact⟨a,b,.inr x,y⟩
   ·rintro⟨a,b,x|x,y⟩
    ·exact .inl ⟨a,b,x,y⟩
    ·exact .inr ⟨a,b,x,y⟩
  ·rcases e with e|e
   ·have:=h.bd a b e;simp only;omega
   ·have:=k.bd a b e;simp only;omega
  ·obtain⟨t1,f⟩:=h.le hs;obtain⟨t2,l2⟩:=k.le d;simp only;by_cases c:s.least<=t.least
   ·rw[Nat.min_eq_left c];exact⟨t1,.inl f⟩
   ·rw[Nat.min_eq_right (by omega)];exact⟨t2,.inr l2⟩
  ·obtain⟨t1,f⟩:=h.mo hs;obtain⟨t2,l2⟩:=k.mo d;simp only;by_cases c:s.most<=t.most
   ·rw[Nat.max_eq_right c];exact⟨t2,.inr l2⟩
   ·rw[Nat.max_eq_left (by omega)];exact⟨t1,.inl f⟩
def shiftS(m z:Nat)(s:Sets):Sets:=⟨s.must|||m,s.may|||m,s.least+z,s.most+z,s.there⟩
theorem IsAgg.shift{P:Nat->Nat->Prop}{s:Sets}(h:IsAgg P s)(hs:s.there=true)(m z:Nat):IsAgg (fun a b=>∃c d,P c d/\a=c|||m/\b=d+z) (shiftS m z s):=by
 obtain⟨k,b0,l⟩:=h.th.1 hs;refine⟨⟨fun _=>⟨_,_,k,b0,l,rfl,rfl⟩,fun _=>hs⟩,fun e=>?_,fun _ i=>?_,fun _ i=>?_,?_,fun _=>?_,fun _=>?_⟩
 ·have:s.there=false:=e;rw[hs]at this;cases this
 ·simp only[shiftS,Nat.testBit_or,Bool.or_eq_true];rw[h.mu hs i];constructor
  ·rintro(f|f) a b ⟨c,d,x,rfl,rfl⟩
   ·rw[Nat.testBit_or,f c d x];rfl
   ·rw[Nat.testBit_or,f];simp
  ·intro f;by_cases g:m.testBit i=true
   ·exact .inr g
   ·refine .inl fun a b x=>?_
    have:=f _ _ ⟨a,b,x,rfl,rfl⟩;rw[Nat.testBit_or,Bool.or_eq_true]at this;exact this.resolve_right g
 ·simp only[shiftS,Nat.testBit_or,Bool.or_eq_true];rw[h.ma hs i];constructor
  ·rintro(⟨a,b,x,y⟩|g)
   ·exact⟨_,_,⟨a,b,x,rfl,rfl⟩,by rw[Nat.testBit_or,y];rfl⟩
   ·exact⟨_,_,⟨k,b0,l,rfl,rfl⟩,by rw[Nat.testBit_or,g];simp⟩
  ·rintro⟨a,b,⟨c,d,x,rfl,rfl⟩,y⟩;rw[Nat.testBit_or,Bool.or_eq_true]at y;exact y.elim (fun y=>.inl ⟨c,d,x,y⟩) .inr
 ·rintro a b ⟨c,d,x,rfl,rfl⟩;have:=h.bd _ _ x;simp only[shiftS];omega
 ·obtain⟨t1,j⟩:=h.le hs;exact⟨_,t1,_,j,rfl,rfl⟩
 ·obtain⟨t1,j⟩:=h.mo hs;exact⟨_,t1,_,j,rfl,rfl⟩
theorem IsAgg.single(t z:Nat):IsAgg (fun a b=>a=t/\b=z) ⟨t,t,z,z,true⟩:=
 ⟨⟨fun _=>⟨t,z,rfl,rfl⟩,fun _=>rfl⟩,fun e=>by simp at e,fun _ k=>⟨fun h a b e=>e.1▸h,fun h=>h t z ⟨rfl,rfl⟩⟩,fun _ k=>⟨fun h=>⟨t,z,⟨rfl,rfl⟩,h⟩,fun⟨a,b,e,h⟩=>e.1▸h⟩,fun a b e=>by simp only;omega,fun _=>⟨t,rfl,rfl⟩,fun _=>⟨t,rfl,rfl⟩⟩
structure Par where
 n : Nat
 hb : Nat -> Nat
 sz : Nat -> Nat
 lead : Nat -> List Nat
 on : ∀ i j, i < n -> j ∈ lead i -> i < j /\ j <= n
def Wy(p:Par)(j t b:Nat):Prop:=∀R:Nat->Nat->Nat->Prop,R 0 0 0->(∀i j t b,R i t b->i<p.n->j∈p.lead i->R j (t|||p.hb i) (b+p.sz i))->R j t b
theorem Wy.nil{p:Par}:Wy p 0 0 0:=fun _ h _=>h
theorem Wy.step{p:Par}{i j t b:Nat}(h:Wy p i t b)(hi:i<p.n)(a:j∈p.lead i):Wy p j (t|||p.hb i) (b+p.sz i):=fun R h0 hs=>hs i j t b (h R h0 hs) hi a
theorem Wy.inv{p:Par}{j t b:Nat}(h:Wy p j t b):(j=0/\t=0/\b=0)\/∃i c a,Wy p i c a/\i<p.n/\j∈p.lead i/\t=c|||p.hb i/\b=a+p.sz i:=
 (h (fun j t b=>Wy p j t b/\((j=0/\t=0/\b=0)\/∃i c a,Wy p i c a/\i<p.n/\j∈p.lead i/\t=c|||p.hb i/\b=a+p.sz i)) ⟨.nil,.inl ⟨rfl,rfl,rfl⟩⟩ fun i _ t b h hi d=>⟨h.1.step hi d,.inr ⟨i,t,b,h.1,hi,d,rfl,rfl⟩⟩).2
def WyN(p:Par)(m j t b:Nat):Prop:=(j=0/\t=0/\b=0)\/∃i,i<m/\j∈p.lead i/\∃a c,Wy p i a c/\t=a|||p.hb i/\b=c+p.sz i
theorem wyN_all{p:Par}{m j:Nat}(f:m<=p.n)(e:j<=m)(t b:Nat):WyN p m j t b↔Wy p j t b:=by
 constructor
 ·rintro(⟨rfl,rfl,rfl⟩|⟨i,hi,a,c,d,hw,rfl,rfl⟩)
  ·exact .nil
  ·exact .step hw (by omega) a
 ·intro h;rcases h.inv with⟨rfl,rfl,rfl⟩|⟨i,c,d,hw,hi,a,rfl,rfl⟩
  ·exact .inl ⟨rfl,rfl,rfl⟩
  ·have:=(p.on _ _ hi a).1;exact .inr ⟨_,by omega,a,_,_,hw,rfl,rfl⟩
def leadTo(A:List Sets)(s:Sets)(l:List Nat):List Sets:=l.foldl (fun A j=>A.set j (joinS (A.getD j zero) s)) A
def goOver(p:Par)(A:List Sets)(i:Nat):List Sets:=if(A.getD i zero).there=true then leadTo A (shiftS (p.hb i) (p.sz i) (A.getD i zero)) (p.lead i)else A
def start(n:Nat):List Sets:=(List.replicate (n+1) zero).set 0 ⟨0,0,0,0,true⟩
def AP(p:Par):Nat->List Sets
 |0=>start p.n
 |m+1=>goOver p (AP p m) m
def Inv(p:Par)(m:Nat)(A:List Sets):Prop:=A.length=p.n+1/\∀j,j<=p.n->IsAgg (WyN p m j) (A.getD j zero)
theorem getD_set{A:List Sets}{i j:Nat}{x:Sets}(hi:i<A.length):(A.set i x).getD j zero=if i=j then x else A.getD j zero:=by
 simp only[zoi,List.getElem?_set];by_cases e:i=j
 ·subst e;simp[hi]
 ·simp[e]
theorem ziK(p:Par):Inv p 0 (start p.n):=by
 refine⟨by simp[start],fun j c=>?_⟩
 unfold start;rw[getD_set (by simp)]
 by_cases e:0=j
 ·subst e;rw[if_pos rfl];exact(IsAgg.single 0 0).congr fun t b=>⟨fun⟨a,h2⟩=>.inl ⟨rfl,a,h2⟩,fun h=>h.elim (fun h=>h.2) (fun⟨i,h,_⟩=>absurd h (zoN _))⟩
 ·rw[if_neg e];have:(List.replicate (p.n+1) zero).getD j zero=zero:=by
   simp only[zoi,List.getElem?_replicate];split<;>rfl
  rw[this];exact .none fun t b h=>h.elim (fun h=>e h.1.symm) (fun⟨i,h,_⟩=>absurd h (zoN _))
theorem zgr{l:List Nat}{s:Sets}{Q:Nat->Nat->Prop}(hs:IsAgg Q s)(i:s.there=true):∀{A:List Sets} {n:Nat} {P:Nat->Nat->Nat->Prop},A.length=n+1->(∀j∈l,j<=n)->(∀j,j<=n->IsAgg (P j) (A.getD j zero))->
 (leadTo A s l).length=n+1/\∀j,j<=n->IsAgg (fun t b=>P j t b\/j∈l/\Q t b) ((leadTo A s l).getD j zero):=by
 induction l with
 |nil=>exact fun d _ h=>⟨d,fun j a=>(h j a).congr fun t b=>by simp⟩
 |cons x l ih=>
  intro A n P d f h;have g:x<=n:=f x List.mem_cons_self;have:=ih (A:=A.set x (joinS (A.getD x zero) s)) (n:=n) (P:=fun j t b=>P j t b\/x=j/\Q t b) (by simpa using d) (fun j a=>f j (List.mem_cons_of_mem _ a)) (fun j a=>by
   rw[getD_set (by omega)]
   by_cases e:x=j
   ·subst e;rw[if_pos rfl];exact((h x g).join hs i).congr fun t b=>by simp
   ·rw[if_neg e];exact(h j a).congr fun t b=>by simp[e])
  refine⟨this.1,fun j a=>(this.2 j a).congr fun t b=>?_⟩
  simp only[zoD];constructor
  ·rintro((h|⟨rfl,h⟩)|⟨c,h2⟩)
   ·exact .inl h
   ·exact .inr ⟨.inl rfl,h⟩
   ·exact .inr ⟨.inr c,h2⟩
  ·rintro(h|⟨rfl|c,h2⟩)
   ·exact .inl (.inl h)
   ·exact .inl (.inr ⟨rfl,h2⟩)
   ·exact .inr ⟨c,h2⟩
theorem zkR{p:Par}{m:Nat}{A:List Sets}(k:m<p.n)(h:Inv p m A):Inv p (m+1) (goOver p A m):=by
 have ha:=(h.2 m (by omega)).congr (wyN_all (Nat.le_of_lt k) (zos m))
 have split:∀j t b,WyN p (m+1) j t b↔(WyN p m j t b\/j∈p.lead m/\∃f g,Wy p m f g/\t=f|||p.hb m/\b=g+p.sz m):=by
  intro j t b;constructor
  ·rintro(h|⟨i,hi,a,h2⟩)
   ·exact .inl (.inl h)
   ·by_cases e:i=m
    ·subst e;exact .inr ⟨a,h2⟩
    ·exact .inl (.inr ⟨i,by omega,a,h2⟩)
  ·rintro((h|⟨i,hi,a,h2⟩)|⟨a,h2⟩)
   ·exact .inl h
   ·exact .inr ⟨i,by omega,a,h2⟩
   ·exact .inr ⟨m,by omega,a,h2⟩
 unfold goOver;by_cases d:(A.getD m zero).there=true
 ·rw[if_pos d];have:=zgr (l:=p.lead m) (ha.shift d (p.hb m) (p.sz m)) d h.1 (fun j c=>(p.on m j k c).2) h.2
  exact⟨this.1,fun j c=>(this.2 j c).congr fun t b=>(split j t b).symm⟩
 ·rw[if_neg d];refine⟨h.1,fun j c=>(h.2 j c).congr fun t b=>?_⟩
  rw[split];exact⟨.inl,fun h=>h.elim id fun⟨_,f,g,hw,_⟩=>absurd (ha.th.2 ⟨f,g,hw⟩) d⟩
theorem inv_AP(p:Par):∀m,m<=p.n->Inv p m (AP p m)
 |0,_=>ziK p
 |m+1,h=>zkR (by omega) (inv_AP p m (by omega))
structure Way where
 st : Nat
 tk : Nat
 by_ : Nat
def succW(p:Par)(ld:Nat->List Nat)(w:Way):List Way:=if w.st=p.n then[]else(ld w.st).map fun j=>⟨j,w.tk|||p.hb w.st,w.by_+p.sz w.st⟩
def SameLead(p:Par)(ld:Nat->List Nat):Prop:=∀i,i<p.n->∀j,j∈ld i↔j∈p.lead i
theorem ways_are{p:Par}{L:List Way}{ld:Nat->List Nat}(d:SameLead p ld)(h:L=⟨0,0,0⟩::L.flatMap (succW p ld))(o:∀w∈L,w.st<=p.n):∀j t b,(⟨j,t,b⟩:Way)∈L↔Wy p j t b:=by
 have c:∀w,w∈L↔w=⟨0,0,0⟩\/∃v∈L,w∈succW p ld v:=fun w=>by
  constructor
  ·intro hw;rw[h]at hw;simpa using hw
  ·intro hw;rw[h];simpa using hw
 intro j t b;constructor
 ·intro hw;induction j using Nat.strongRecOn generalizing t b with
  |ind j f=>
   rcases(c _).1 hw with e|⟨v,k,hs⟩
   ·simp only[Way.mk.injEq]at e;obtain⟨rfl,rfl,rfl⟩:=e;exact .nil
   ·have m:=o v k;unfold succW at hs;by_cases e:v.st=p.n
    ·rw[if_pos e]at hs;simp at hs
    ·rw[if_neg e,zoJ]at hs;obtain⟨l,a,g⟩:=hs;simp only[Way.mk.injEq]at g;obtain⟨rfl,rfl,rfl⟩:=g;have a:=(d v.st (by omega) l).1 a
     have:=(p.on v.st l (by omega) a).1
     exact .step (f v.st this _ _ k) (by omega) a
 ·intro hw;refine hw (fun j t b=>(⟨j,t,b⟩:Way)∈L) ((c _).2 (.inl rfl)) fun i j t b f hi q=>(c _).2 (.inr ⟨_,f,?_⟩)
  unfold succW;rw[if_neg (by simp only;omega),zoJ]
  exact⟨j,(d i hi j).2 q,rfl⟩
def addW(A:List Sets)(w:Way):List Sets:=A.set w.st (joinS (A.getD w.st zero) ⟨w.tk,w.tk,w.by_,w.by_,true⟩)
def sumW(n:Nat)(L:List Way):List Sets:=L.foldl addW (List.replicate (n+1) zero)
theorem zfu{n:Nat}:∀{L:List Way} {A:List Sets} {P:Nat->Nat->Nat->Prop},(∀w∈L,w.st<=n)->A.length=n+1->(∀j,j<=n->IsAgg (P j) (A.getD j zero))->
 (L.foldl addW A).length=n+1/\∀j,j<=n->IsAgg (fun t b=>P j t b\/(⟨j,t,b⟩:Way)∈L) ((L.foldl addW A).getD j zero)
 |[],A,P,_,hA,h=>⟨hA,fun j f=>(h j f).congr fun t b=>by simp⟩
 |x::L,A,P,hl,hA,h=>by
  have g:x.st<=n:=hl x List.mem_cons_self;have:=zfu (L:=L) (A:=addW A x) (P:=fun j t b=>P j t b\/(⟨j,t,b⟩:Way)=x) (fun w hw=>hl w (List.mem_cons_of_mem _ hw)) (by simpa[addW]using hA) (fun j f=>by
   unfold addW;rw[getD_set (by omega)]
   by_cases e:x.st=j
   ·subst e;rw[if_pos rfl];refine((h _ g).join (IsAgg.single x.tk x.by_) rfl).congr fun t b=>?_
    obtain⟨a,c,d⟩:=x;simp
   ·rw[if_neg e];refine(h j f).congr fun t b=>⟨.inl,fun h=>h.elim id fun h=>absurd (by rw[<-h]) e⟩)
  refine⟨this.1,fun j f=>(this.2 j f).congr fun t b=>?_⟩
  simp only[zoD,or_assoc]
theorem zhj{p:Par}{L:List Way}{ld:Nat->List Nat}(a:SameLead p ld)(h:L=⟨0,0,0⟩::L.flatMap (succW p ld))(c:∀w∈L,w.st<=p.n):(sumW p.n L).length=p.n+1/\∀j,j<=p.n->IsAgg (Wy p j) ((sumW p.n L).getD j zero):=by
 have:=zfu (n:=p.n) (L:=L) (A:=List.replicate (p.n+1) zero) (P:=fun _ _ _=>False) c (by simp) (fun j d=>by
  have:(List.replicate (p.n+1) zero).getD j zero=zero:=by
   simp only[zoi,List.getElem?_replicate];split<;>rfl
  rw[this];exact .none fun _ _ h=>h)
 exact⟨this.1,fun j d=>(this.2 j d).congr fun t b=>by rw[ways_are a h c];simp⟩
theorem zl9{p:Par}{L:List Way}{ld:Nat->List Nat}(a:SameLead p ld)(h:L=⟨0,0,0⟩::L.flatMap (succW p ld))(c:∀w∈L,w.st<=p.n){m j:Nat}(b:m<=p.n)(d:j<=m):(AP p m).getD j zero=(sumW p.n L).getD j zero:=
 (((inv_AP p m b).2 j (by omega)).congr (wyN_all b d)).one ((zhj a h c).2 j (by omega))
theorem both_end{p:Par}{L:List Way}{ld:Nat->List Nat}(a:SameLead p ld)(h:L=⟨0,0,0⟩::L.flatMap (succW p ld))(b:∀w∈L,w.st<=p.n):AP p p.n=sumW p.n L:=by
 have d:=(inv_AP p p.n (zos _)).1;have h2:=(zhj a h b).1;refine List.ext_getElem? fun j=>?_
 by_cases c:j<=p.n
 ·have:=zl9 a h b (zos _) c;simp only[zoi]at this;rw[zoh (by omega),zoh (by omega)]at this ⊢
  simpa using this
 ·rw[List.getElem?_eq_none (by omega),List.getElem?_eq_none (by omega)]
def pot(n:Nat)(L:List Way):Nat:=(L.map fun w=>2^(n+1-w.st)).sum
theorem zbS:∀(k s:Nat) (l:List Nat),l.Nodup->(∀j∈l,s<j/\j<=s+k)->(l.map fun j=>2^(s+k+1-j)).sum+2<=2^(k+1)
 |0,s,l,_,h=>by
  have:l=[]:=List.eq_nil_iff_forall_not_mem.2 fun j a=>by have:=h j a;omega
  subst this;exact zos 2
 |k+1,s,l,hn,h=>by
  have i:2^(k+1+1)=2^(k+1)+2^(k+1):=by rw[Nat.pow_succ (n:=2) (m:=k+1)];omega
  by_cases hs:s+1∈l
  ·have g:=List.perm_cons_erase hs;have d:=hn.erase (s+1);have c:=zbS k (s+1) (l.erase (s+1)) d fun j a=>by
    have f:=(hn.mem_erase_iff).1 a;have:=h j f.2;have:=f.1;omega
   have b:=(g.map fun j=>2^(s+(k+1)+1-j)).sum_nat
   rw[b,List.map_cons,List.sum_cons,show s+(k+1)+1-(s+1)=k+1 by omega]
   rw[show s+1+k+1=s+(k+1)+1 by omega]at c
   omega
  ·have c:=zbS k (s+1) l hn fun j a=>by
    have:=h j a;have:j≠s+1:=fun e=>hs (e▸a)
    omega
   rw[show s+1+k+1=s+(k+1)+1 by omega]at c
   omega
theorem zgs(n:Nat)(L M:List Way):pot n (L++M)=pot n L+pot n M:=by simp[pot]
theorem zma{n:Nat}{L:List Way}(h:∀w∈L,w.st<=n):L.length<=pot n L:=by
 induction L with
 |nil=>exact zos _
 |cons w L ih=>
  have b:=ih fun v a=>h v (List.mem_cons_of_mem _ a)
  have h2:0<2^(n+1-w.st):=Nat.pos_of_ne_zero (by simp)
  simp only[pot,List.map_cons,List.sum_cons,List.length_cons]at b ⊢;omega
theorem zkS{p:Par}{ld:Nat->List Nat}(a:SameLead p ld)(b:∀i,(ld i).Nodup){w:Way}(hw:w.st<=p.n):pot p.n (succW p ld w)+2<=2^(p.n+1-w.st):=by
 unfold succW;by_cases e:w.st=p.n
 ·rw[if_pos e,e,show p.n+1-p.n=1 by omega]
  exact zos 2
 ·rw[if_neg e];have:=zbS (p.n-w.st) w.st (ld w.st) (b _) fun j c=>by
   have:=p.on w.st j (by omega) ((a w.st (by omega) j).1 c)
   omega
  rw[show w.st+(p.n-w.st)+1=p.n+1 by omega,show p.n-w.st+1=p.n+1-w.st by omega]at this
  simpa[pot,List.map_map,Function.comp_def]using this
structure Gone (p : Par) (ld : Nat -> List Nat) (i : Nat) (L : List Way) : Prop where
 le : i <= L.length
 eq : L = ⟨0, 0, 0⟩ :: (L.take i).flatMap (succW p ld)
 st : ∀ w ∈ L, w.st <= p.n
 po : i + pot p.n (L.drop i) <= 2 ^ (p.n + 1)
theorem Gone.start(p:Par)(ld:Nat->List Nat):Gone p ld 0 [⟨0,0,0⟩]:=
 ⟨zon _,rfl,fun w hw=>by simp at hw;rw[hw];exact zon _,by simp[pot]⟩
theorem Gone.len{p:Par}{ld:Nat->List Nat}{i:Nat}{L:List Way}(h:Gone p ld i L):L.length<=2^(p.n+1):=by
 have a:=zma (n:=p.n) (L:=L.drop i) fun w hw=>h.st w (List.mem_of_mem_drop hw)
 have h2:=h.po;have b:=h.le;rw[List.length_drop]at a;omega
theorem Gone.next{p:Par}{ld:Nat->List Nat}(c:SameLead p ld)(d:∀i,(ld i).Nodup){i:Nat}{L:List Way}{w:Way}(h:Gone p ld i L)(hw:L[i]?=some w):Gone p ld (i+1) (L++succW p ld w):=by
 have hi:i<L.length:=(zok.1 hw).1;have b:L[i]=w:=(zok.1 hw).2;have f:w∈L:=b▸List.getElem_mem hi;refine⟨by simp;omega,?_,fun v a=>?_,?_⟩
 ·rw[List.take_append_of_le_length (by omega),zoI,hw]
  simp only[Option.toList_some,List.flatMap_append,List.flatMap_cons,List.flatMap_nil,List.append_nil];have:=h.eq;rw[<-List.cons_append,<-this]
 ·rcases List.mem_append.1 a with a|a
  ·exact h.st v a
  ·unfold succW at a;by_cases e:w.st=p.n
   ·rw[if_pos e]at a;simp at a
   ·rw[if_neg e,zoJ]at a;obtain⟨j,g,rfl⟩:=a;have:=h.st w f;exact(p.on w.st j (by omega) ((c w.st (by omega) j).1 g)).2
 ·have k:=zkS c d (h.st w f);have h2:=h.po;have e:L.drop i=w::L.drop (i+1):=by rw[zoM hi,b]
  rw[e]at h2;rw[List.drop_append_of_le_length (by omega),zgs]
  simp only[pot,List.map_cons,List.sum_cons]at h2 k ⊢;omega
theorem Gone.done{p:Par}{ld:Nat->List Nat}{i:Nat}{L:List Way}(h:Gone p ld i L)(e:i=L.length):L=⟨0,0,0⟩::L.flatMap (succW p ld):=by
 have:=h.eq;rwa[e,List.take_length]at this
theorem IsAgg.small{P:Nat->Nat->Prop}{s:Sets}{K B:Nat}(h:IsAgg P s)(c:∀t b,P t b->t<2^K/\b<=B):s.must<2^K/\s.may<2^K/\s.least<=B/\s.most<=B:=by
 cases a:s.there with
 |false=>
  rw[h.no a];have:0<2^K:=Nat.pos_of_ne_zero (by simp)
  exact⟨this,this,zon _,zon _⟩
 |true=>
  obtain⟨t0,b0,h0⟩:=h.th.1 a;obtain⟨t1,f⟩:=h.le a;obtain⟨t2,h2⟩:=h.mo a;refine⟨?_,?_,(c _ _ f).2,(c _ _ h2).2⟩
  ·refine Nat.lt_pow_two_of_testBit _ fun k d=>?_
   cases hb:s.must.testBit k with
   |false=>rfl
   |true=>
    have:=(h.mu a k).1 hb t0 b0 h0;rw[Nat.testBit_lt_two_pow (zom (c _ _ h0).1 (Nat.pow_le_pow_right (by decide) d))]at this
    cases this
  ·refine Nat.lt_pow_two_of_testBit _ fun k d=>?_
   cases hb:s.may.testBit k with
   |false=>rfl
   |true=>
    obtain⟨t,b,g,e⟩:=(h.ma a k).1 hb;rw[Nat.testBit_lt_two_pow (zom (c _ _ g).1 (Nat.pow_le_pow_right (by decide) d))]at e
    cases e
theorem wy_small{p:Par}{K Z:Nat}(hb:∀i,p.hb i<2^K)(a:∀i,p.sz i<=Z){j t b:Nat}(h:Wy p j t b):t<2^K/\b<=Z*j:=
 h (fun j t b=>t<2^K/\b<=Z*j) ⟨Nat.pos_of_ne_zero (by simp),zon _⟩ fun i j t b ⟨f,h2⟩ hi d=>⟨Nat.or_lt_two_pow f (hb i),by
  have c:=(p.on i j hi d).1;have g:=a i;have e:Z*(i+1)<=Z*j:=Nat.mul_le_mul_left Z c;rw[Nat.mul_add,Nat.mul_one]at e;omega⟩
theorem wyN_small{p:Par}{K Z:Nat}(hb:∀i,p.hb i<2^K)(a:∀i,p.sz i<=Z){m j t b:Nat}(f:m<=p.n)(h:WyN p m j t b):t<2^K/\b<=Z*j:=by
 rcases h with⟨rfl,rfl,rfl⟩|⟨i,hi,c,d,e,hw,rfl,rfl⟩
 ·exact⟨Nat.pos_of_ne_zero (by simp),zon _⟩
 ·exact wy_small hb a (hw.step (by omega) c)
end Go.Proofs.YtdajaaondlekfaaGreat.Wk
namespace Go.Proofs.YtdajaaondlekfaaGreat
open Go.RowKit
structure zq (w : World) where
 to : World
 h : Below w.heap.size w to
theorem zi{P:Program}{c:Nat}{Q:Exit->Act->World->Prop}{a:Act}{w:World}{l:List Oper}(b:P.follows .mixedOrders=true)(d:Region.lexB .any l.toArray=true)
 (h:wpQuiet P l.toArray (fun w'=>∃p:zq w,w'=p.to) (fun e=>∀w',(∃p:zq w,w'=p.to)->Q .normal e w') l a):(Code.region c l.toArray true).wp P Q a w:=
 wp_region_quiet (C:=fun w'=>∃p:zq w,w'=p.to) b d ⟨⟨w.drew,(zof _ _).drew⟩,rfl⟩ (by simpa using h)
theorem zT{P:Program}{f:FuncId}{args:Array Value}{w:World}{v:Value}(p:zq w)(h:Calls P f args p.to fun e w'=>e=.returned v/\Below p.to.heap.size p.to w'):Calls P f args p.to fun e a=>e=.returned v/\∃p:zq w,a=p.to:=
 h.mono fun _ a ⟨b,hb⟩=>⟨b,⟨a,zh p.h hb⟩,rfl⟩
theorem zt{P:Program}{f:FuncId}{args:Array Value}{w:World}{v:Value}(p:zq w)(h:Calls P f args p.to fun e w'=>e=.returned v/\w'=p.to):Calls P f args p.to fun e a=>e=.returned v/\∃p:zq w,a=p.to:=
 h.mono fun _ _ ⟨b,hb⟩=>⟨b,p,hb⟩
theorem zm{w:World}{g o:Nat}{v:Value}(h:w.cell? ⟨g,o,none⟩=some v)(p:zq w):p.to.cell? ⟨g,o,none⟩=some v:=za h p.h
end Go.Proofs.YtdajaaondlekfaaGreat
namespace Go.Proofs.YtdajaaondlekfaaGreat
open Go.RowKit
theorem zu{α :Type}{k:Nat}{P: α->World->Nat->Nat->Prop}{w:World}{s:QSl}{S:List α}(h:QRow k P w s S){i:Nat}(hi:i<s.n):∃g off x,s.a=some ⟨g,off,none⟩/\S[i]?=some x/\P x w g (off+i*k):=by
 have b:i<S.length:=by rw[h.1];exact hi
 obtain⟨g,off,e,c⟩:=h.2 i _ (zoh b);exact⟨g,off,_,e,zoh b,c⟩
@[reducible] def PlanD.box(d:PlanD):Obj:=.cells #[.slice d.heads.a d.heads.n d.heads.c,.slice d.mta.a d.mta.n d.mta.c,.slice d.states.a d.states.n d.states.c,.slice d.acts.a d.acts.n d.acts.c,.slice d.tabs.a d.tabs.n d.tabs.c,.slice d.nodes.a d.nodes.n d.nodes.c,.slice d.out.a d.out.n d.out.c] 29
end Go.Proofs.YtdajaaondlekfaaGreat
namespace Go.Proofs.YtdajaaondlekfaaGreat
open Go.RowKit Mth
def ku(x:Int):Int:=(Lib.bitLen x.toNat:Int)
theorem zg9{x:Int}(h:256<=x)(a:x<18446744073709551616):ku x=8+ku (x/256):=by
 unfold ku;rw[Lib.bitLen_shift8 x.toNat (by omega) (by omega),show(x/256).toNat=x.toNat/256 by omega]
 omega
theorem zeb{x:Int}(h:65536<=x)(a:x<18446744073709551616):ku x=16+ku (x/65536):=by
 unfold ku;rw[Lib.bitLen_shift16 x.toNat (by omega) (by omega),show(x/65536).toNat=x.toNat/65536 by omega]
 omega
theorem zec{x:Int}(h:4294967296<=x)(a:x<18446744073709551616):ku x=32+ku (x/4294967296):=by
 unfold ku;rw[Lib.bitLen_shift32 x.toNat (by omega) (by omega),show(x/4294967296).toNat=x.toNat/4294967296 by omega]
 omega
theorem xY{y:Int}(h0:0<=y)(a:y<=255):Lib.len8 y=ku y/\0<=ku y/\ku y<=8:=
 ⟨Lib.len8_of y h0 a,by unfold ku;omega,by have:=Lib.bitLen_le8' y h0 a;unfold ku;omega⟩
theorem zdF(x:Int)(w:World)(h0:0<=x)(i:x<18446744073709551616):Calls Tryz.prog 200 #[.int .u64 x] w fun e w'=>e=.returned (.int .i64 (ku x))/\w'=w:=by
 generalize d:ku x=z;have h:=hid d;clear d;by_cases a:4294967296<=x
 ·by_cases b:65536<=x/4294967296
  ·by_cases c:256<=x/4294967296/65536
   ·have y0:0<=x/4294967296/65536/256:=by omega
    have y1:x/4294967296/65536/256<=255:=by omega
    have g:=hid (xY y0 y1);go_enter Tryz.func200,Tryz.ntmps200
    go_wp2;go_ret;refine⟨congrArg Ending.returned (congrArg (Value.int IntKind.i64) ?_),rfl⟩;have d:=h.out;have f:=g.out;rw[zec a (by omega),zeb b (by omega),zg9 c (by omega)]at d
    rw[f.1];unfold wrap64;omega
   ·have y0:0<=x/4294967296/65536:=by omega
    have y1:x/4294967296/65536<=255:=by omega
    have g:=hid (xY y0 y1);go_enter Tryz.func200,Tryz.ntmps200
    go_wp2;go_ret;refine⟨congrArg Ending.returned (congrArg (Value.int IntKind.i64) ?_),rfl⟩;have d:=h.out;have f:=g.out;rw[zec a (by omega),zeb b (by omega)]at d
    rw[f.1];unfold wrap64;omega
  ·by_cases c:256<=x/4294967296
   ·have y0:0<=x/4294967296/256:=by omega
    have y1:x/4294967296/256<=255:=by omega
    have g:=hid (xY y0 y1);go_enter Tryz.func200,Tryz.ntmps200
    go_wp2;go_ret;refine⟨congrArg Ending.returned (congrArg (Value.int IntKind.i64) ?_),rfl⟩;have d:=h.out;have f:=g.out;rw[zec a (by omega),zg9 c (by omega)]at d
    rw[f.1];unfold wrap64;omega
   ·have y0:0<=x/4294967296:=by omega
    have y1:x/4294967296<=255:=by omega
    have g:=hid (xY y0 y1);go_enter Tryz.func200,Tryz.ntmps200
    go_wp2;go_ret;refine⟨congrArg Ending.returned (congrArg (Value.int IntKind.i64) ?_),rfl⟩;have d:=h.out;have f:=g.out;rw[zec a (by omega)]at d
    rw[f.1];unfold wrap64;omega
 ·by_cases b:65536<=x
  ·by_cases c:256<=x/65536
   ·have y0:0<=x/65536/256:=by omega
    have y1:x/65536/256<=255:=by omega
    have g:=hid (xY y0 y1);go_enter Tryz.func200,Tryz.ntmps200
    go_wp2;go_ret;refine⟨congrArg Ending.returned (congrArg (Value.int IntKind.i64) ?_),rfl⟩;have d:=h.out;have f:=g.out;rw[zeb b (by omega),zg9 c (by omega)]at d
    rw[f.1];unfold wrap64;omega
   ·have y0:0<=x/65536:=by omega
    have y1:x/65536<=255:=by omega
    have g:=hid (xY y0 y1);go_enter Tryz.func200,Tryz.ntmps200
    go_wp2;go_ret;refine⟨congrArg Ending.returned (congrArg (Value.int IntKind.i64) ?_),rfl⟩;have d:=h.out;have f:=g.out;rw[zeb b (by omega)]at d
    rw[f.1];unfold wrap64;omega
  ·by_cases c:256<=x
   ·have y0:0<=x/256:=by omega
    have y1:x/256<=255:=by omega
    have g:=hid (xY y0 y1);go_enter Tryz.func200,Tryz.ntmps200
    go_wp2;go_ret;refine⟨congrArg Ending.returned (congrArg (Value.int IntKind.i64) ?_),rfl⟩;have d:=h.out;have f:=g.out;rw[zg9 c (by omega)]at d
    rw[f.1];unfold wrap64;omega
   ·have y0:0<=x:=by omega
    have y1:x<=255:=by omega
    have g:=hid (xY y0 y1);go_enter Tryz.func200,Tryz.ntmps200
    go_wp2;go_ret;refine⟨congrArg Ending.returned (congrArg (Value.int IntKind.i64) ?_),rfl⟩;have d:=h.out;have f:=g.out;rw[f.1];unfold wrap64;omega
end Go.Proofs.YtdajaaondlekfaaGreat
