import Derived.Test.YtdajaaondlekfaaGreatG17
import Derived.Test.YtdajaaondlekfaaGreatG13
import Derived.Test.YtdajaaondlekfaaGreatVQState2
import Derived.Test.YtdajaaondlekfaaGreatG14
import Derived.Test.YtdajaaondlekfaaGreatG4
import Derived.Test.YtdajaaondlekfaaGreatVQR7
set_option maxHeartbeats 200000
set_option maxRecDepth 20000
set_option linter.unusedSimpArgs false
namespace Go.Proofs.YtdajaaondlekfaaGreat
open Go.RowKit
def zO(p:PPlan):Nat->Nat->Int
 |0,n=>yJ (p.hs.getD n [])
 |1,n=>xC (p.ms.getD n 0)
 |2,n=>yu p n (p.ss.getD n PState.z)
 |3,n=>ki p (p.al.getD n PAct.z)
 |4,n=>zcR p (p.ts.getD n PTab.z)
 |5,n=>yG p n (p.ns.getD n PNode.z)
 |_,n=>zf4 p n
theorem yY{α β :Type}{l:List α}{f: α->β}{n:Nat}{x: α}(h:l[n]?=some x)(y: β):(l.map f).getD n y=f x:=by
 rw[zoi,zoy,h];rfl
theorem zfT(d:PlanD)(w:World)(h:d.lie w)(hs:d.small):Calls Tryz.prog 103 #[d.v] w (zI d (zO d.p) w):=by
 refine zh0 d _ w fun k f w' hb n c=>?_
 have a:=h.step hb;rcases qx f with rfl|rfl|rfl|rfl|rfl|rfl|rfl
 ·exact zkd d w' a n c
 ·exact zke d w' a n c
 ·obtain⟨g,off,x,_,b,_⟩:=zu a.ss c;have e:zO d.p 2 n=yu d.p n x.p:=by
   show yu d.p n (d.p.ss.getD n PState.z)=_;rw[show d.p.ss.getD n PState.z=x.p from yY b _]
  rw[e];exact zin d w' a n c x b
 ·obtain⟨g,off,x,_,b,_⟩:=zu a.al c;have e:zO d.p 3 n=ki d.p x.p:=by
   show ki d.p (d.p.al.getD n PAct.z)=_;rw[show d.p.al.getD n PAct.z=x.p from yY b _]
  rw[e];exact zfS d w' a n c x b
 ·obtain⟨g,off,x,_,b,_⟩:=zu a.ts c;have e:zO d.p 4 n=zcR d.p x.p:=by
   show zcR d.p (d.p.ts.getD n PTab.z)=_;rw[show d.p.ts.getD n PTab.z=x.p from yY b _]
  rw[e];exact ziq d w' a hs n c x b
 ·obtain⟨g,off,x,_,b,_⟩:=zu a.ns c;have e:zO d.p 5 n=yG d.p n x.p:=by
   show yG d.p n (d.p.ns.getD n PNode.z)=_;rw[show d.p.ns.getD n PNode.z=x.p from yY b _]
  rw[e];exact zkh d w' a n c x b
 ·exact zlN d w' a (by have:=hs.on;omega) n c
theorem qh{num least most:Int}{a:Nat}{c:Nat->Int}{C A k o:Int}(h:qB num a least most c C A)(l:qB num a least most c k o):C=k/\A=o:=by
 rcases h with⟨j,rfl,rfl⟩|⟨j,h2⟩
 ·rcases l with⟨_,rfl,rfl⟩|⟨d,_⟩
  ·exact⟨rfl,rfl⟩
  ·exact absurd j d
 ·rcases l with⟨d,_⟩|⟨_,d⟩
  ·exact absurd d j
  ·rcases h2 with⟨n,s,m,r,rfl,rfl⟩|⟨q,rfl,rfl⟩
   ·rcases d with⟨e,i,b,g,rfl,rfl⟩|⟨f,rfl,rfl⟩
    ·have:n=e:=by
      rcases Nat.lt_trichotomy n e with h|h|h
      ·exact absurd (g n h) m
      ·exact h
      ·exact absurd (r e h) b
     subst this;exact⟨rfl,rfl⟩
    ·exact absurd (f n s) m
   ·rcases d with⟨e,i,b,g,rfl,rfl⟩|⟨f,rfl,rfl⟩
    ·exact absurd (q e i) b
    ·exact⟨rfl,rfl⟩
theorem zir{d:PlanD}{cs:Nat->Nat->Int}{C A l n:Int}(h:jG d cs C A)(m:jG d cs l n):C=l/\A=n:=by
 rcases h with⟨k,q,hf,j,r⟩|⟨o,rfl,rfl⟩
 ·rcases m with⟨g,e,a,b,f⟩|⟨c,rfl,rfl⟩
  ·have:k=g:=by
    rcases Nat.lt_trichotomy k g with h|h|h
    ·obtain⟨i,h0⟩:=f k h;exact absurd (qh hf h0).1 j
    ·exact h
    ·obtain⟨i,h0⟩:=r g h;exact absurd (qh a h0).1 b
   subst this;exact qh hf a
  ·obtain⟨i,h0⟩:=c k q;exact absurd (qh hf h0).1 j
 ·rcases m with⟨g,e,a,b,f⟩|⟨c,rfl,rfl⟩
  ·obtain⟨i,h0⟩:=o g e;exact absurd (qh a h0).1 b
  ·exact⟨rfl,rfl⟩
def zaE(p:PPlan):Nat->Nat
 |0=>p.hs.length
 |1=>p.ms.length
 |2=>p.ss.length
 |3=>p.al.length
 |4=>p.ts.length
 |5=>p.ns.length
 |_=>p.os.length
def zaF(num:Int)(a:Nat)(least most:Int)(c:Nat->Int):Int × Int:=
 if(a:Int)<least\/most<(a:Int)then(2,-num)else match(List.range a).find? (fun n=>c n !=0)with
  |some n=>(c n,1000*num+n)
  |none=>(0,0)
theorem ze9(num:Int)(a:Nat)(least most:Int)(c:Nat->Int):qB num a least most c (zaF num a least most c).1 (zaF num a least most c).2:=by
 unfold zaF;by_cases h:(a:Int)<least\/most<(a:Int)
 ·rw[if_pos h];exact .inl ⟨h,rfl,rfl⟩
 ·rw[if_neg h];refine .inr ⟨h,?_⟩;rcases zcg (fun n=>c n=0) a with d|⟨n,f,g,e⟩
  ·have:(List.range a).find? (fun n=>c n !=0)=none:=by
    rw[List.find?_eq_none];intro x i;simp[d x (List.mem_range.1 i)]
   rw[this];exact .inr ⟨d,rfl,rfl⟩
  ·have:(List.range a).find? (fun n=>c n !=0)=some n:=by
    rw[List.find?_range_eq_some];exact⟨by simpa using g,List.mem_range.2 f,fun j b=>by simpa using e j b⟩
   rw[this];exact .inl ⟨n,f,g,e,rfl,rfl⟩
def zcS(p:PPlan)(cs:Nat->Nat->Int):Nat->Int × Int
 |0=>(0,0)
 |m+1=>if(zaF (((6-m:Nat):Int)+1) (zaE p (6-m)) (zS (6-m)) (yh (6-m)) (cs (6-m))).1≠0 then zaF (((6-m:Nat):Int)+1) (zaE p (6-m)) (zS (6-m)) (yh (6-m)) (cs (6-m))else zcS p cs m
def zD(p:PPlan):Int × Int:=zcS p (zO p) 7
theorem zku{d:PlanD}{w:World}(a:d.lie w)(k:Nat):zM d k=zaE d.p k:=by
 unfold zM zaE PlanD.p;split<;>simp[a.hs.1,a.ms.1,a.ss.1,a.al.1,a.ts.1,a.ns.1,a.os.1]
theorem zfa{d:PlanD}{w:World}(a:d.lie w)(cs:Nat->Nat->Int):∀m,m<=7->(∀j,j<7-m->yE d cs j)->jG d cs (zcS d.p cs m).1 (zcS d.p cs m).2
 |0,_,h=>.inr ⟨fun j c=>h j (by omega),rfl,rfl⟩
 |m+1,hm,h=>by
  have hf:=ze9 (((6-m:Nat):Int)+1) (zaE d.p (6-m)) (zS (6-m)) (yh (6-m)) (cs (6-m));rw[<-zku a]at hf;unfold zcS;rw[<-zku a];by_cases b:(zaF (((6-m:Nat):Int)+1) (zM d (6-m)) (zS (6-m)) (yh (6-m)) (cs (6-m))).1≠0
  ·rw[if_pos b];exact .inl ⟨6-m,by omega,hf,b,fun j c=>h j (by omega)⟩
  ·rw[if_neg b];refine zfa a cs m (by omega) fun j c=>?_
   by_cases e:j=6-m
   ·subst e;have:(zaF (((6-m:Nat):Int)+1) (zM d (6-m)) (zS (6-m)) (yh (6-m)) (cs (6-m))).1=0:=by omega
    rw[this]at hf;exact⟨_,hf⟩
   ·exact h j (by omega)
theorem zkv{d:PlanD}{w:World}(a:d.lie w){C A:Int}(h:jG d (zO d.p) C A):C=(zD d.p).1/\A=(zD d.p).2:=
 zir h (zfa a _ 7 (zos _) fun j b=>absurd b (by omega))
theorem zcT(d:PlanD)(w:World)(a:d.lie w)(hs:d.small):Calls Tryz.prog 103 #[d.v] w fun e w'=>e=.returned (.agg #[.int .i64 (zD d.p).1,.int .i64 (zD d.p).2])/\Below w.heap.size w w':=
 (zfT d w a hs).mono fun e w' ⟨C,A,b,c,hb⟩=>by
  obtain⟨rfl,rfl⟩:=zkv a b;exact⟨c,hb⟩
theorem zgw{num:Int}{a:Nat}{least most:Int}{c:Nat->Int}(h:(zaF num a least most c).1=0):least<=(a:Int)/\(a:Int)<=most/\∀n,n<a->c n=0:=by
 have hf:=ze9 num a least most c;rw[h]at hf;rcases hf with⟨_,h2,_⟩|⟨d,⟨n,_,b,_,h2,_⟩|⟨h2,_⟩⟩
 ·exact absurd h2 (by decide)
 ·exact absurd h2.symm b
 ·exact⟨by omega,by omega,h2⟩
theorem zc5{p:PPlan}{cs:Nat->Nat->Int}:∀m,m<=7->(zcS p cs m).1=0->∀j,7-m<=j->j<7->(zaF ((j:Int)+1) (zaE p j) (zS j) (yh j) (cs j)).1=0
 |0,_,_,j,h1,h2=>absurd h1 (by omega)
 |m+1,hm,h,j,h1,h2=>by
  unfold zcS at h;by_cases a:(zaF (((6-m:Nat):Int)+1) (zaE p (6-m)) (zS (6-m)) (yh (6-m)) (cs (6-m))).1=0
  ·rw[if_neg (fun h=>h a)]at h
   by_cases e:j=6-m
   ·subst e;exact a
   ·exact zc5 m (by omega) h j (by omega) h2
  ·rw[if_pos a]at h;exact absurd h a
theorem zB{p:PPlan}(h:(zD p).1=0)(j:Nat)(a:j<7):zS j<=(zaE p j:Int)/\(zaE p j:Int)<=yh j/\∀n,n<zaE p j->zO p j n=0:=zgw (zc5 7 (zos _) h j (by omega) a)
theorem kK:∀{l:List Int},zn l=0->∀x∈l,x=0
 |[],_,x,a=>absurd a zoA
 |y::l,h,x,a=>by
  unfold zn at h;by_cases e:y=0
  ·rw[if_neg (fun h=>h e)]at h
   rcases zoD.1 a with rfl|a
   ·exact e
   ·exact kK h x a
  ·rw[if_pos e]at h;exact absurd h e
theorem zal{x y:Int}(h:or2 x y=0):x=0/\y=0:=by
 unfold or2 at h;by_cases e:x=0
 ·rw[if_neg (fun h=>h e)]at h
  exact⟨e,h⟩
 ·rw[if_pos e]at h;exact absurd h e
structure qJ (p : PPlan) (i : Nat) (x : PState) : Prop where
 head : x.head = -1 \/ 0 <= x.head /\ x.head < (p.hs.length : Int)
 few : x.cs.length <= 4
 on : 0 < x.cs.length -> p.width x.r [] ≠ 0
 out : ∀ tq ∈ ye x, tq = 1000 \/ tq = 1001 \/ ((i : Int) < tq /\ tq < (p.ss.length : Int))
theorem way_zero{n:Nat}{i tq:Int}(h:yF n i tq=0):tq=1000\/tq=1001\/(i<tq/\tq<(n:Int)):=by
 unfold yF at h;by_cases a:tq=1000\/tq=1001
 ·exact a.elim .inl fun h=>.inr (.inl h)
 ·rw[if_neg a]at h;by_cases h2:¬(0<=tq/\tq<(n:Int))
  ·rw[if_pos h2]at h;exact absurd h (by decide)
  ·rw[if_neg h2]at h;by_cases b:tq<=i
   ·rw[if_pos b]at h;exact absurd h (by decide)
   ·exact .inr (.inr (by omega))
theorem zam{p:PPlan}(h:(zD p).1=0){i:Nat}(hi:i<p.ss.length):qJ p i (p.ss.getD i PState.z):=by
 have a:yu p i (p.ss.getD i PState.z)=0:=(zB h 2 (by decide)).2.2 i hi
 generalize p.ss.getD i PState.z=x at*;unfold yu at a;by_cases j:x.head≠-1/\¬(0<=x.head/\x.head<(p.hs.length:Int))
 ·rw[if_pos j]at a;exact absurd a (by decide)
 rw[if_neg j]at a;by_cases h2:4<x.cs.length
 ·rw[if_pos h2]at a;exact absurd a (by decide)
 rw[if_neg h2]at a;by_cases e:0<x.cs.length/\p.width x.r []=0
 ·rw[if_pos e]at a;exact absurd a (by decide)
 rw[if_neg e]at a;obtain⟨k,l⟩:=zal a;refine⟨by omega,by omega,fun m hw=>e ⟨m,hw⟩,fun tq d=>?_⟩
 rcases List.mem_append.1 d with b|b
 ·obtain⟨c,f,rfl⟩:=zoJ.1 b;have:=kK k _ (zoJ.2 ⟨c,f,rfl⟩);unfold yn at this;by_cases g:p.width x.r []<ku c.mask\/bits .andNot .u64 c.value c.mask≠0
  ·rw[if_pos g]at this;exact absurd this (by decide)
  ·rw[if_neg g]at this;exact way_zero this
 ·simp only[zoD,zoA,or_false]at b;rw[b];exact way_zero l
theorem mem_leadP{n:Nat}{l:List Int}{j:Nat}:j∈kv n l↔∃tq∈l,tq≠1001/\yZ n tq=j:=by
 unfold kv;rw[List.mem_filterMap];constructor
 ·rintro⟨tq,a,h2⟩;by_cases e:tq=1001
  ·rw[if_pos e]at h2;cases h2
  ·rw[if_neg e]at h2;exact⟨tq,a,e,zoq h2⟩
 ·rintro⟨tq,a,e,h2⟩;exact⟨tq,a,by rw[if_neg e,h2]⟩
theorem zmd{p:PPlan}(h:(zD p).1=0)(i j:Nat)(hi:i<p.ss.length)(b:j∈kv p.ss.length (ye (p.ss.getD i PState.z))):i<j/\j<=p.ss.length:=by
 obtain⟨tq,a,h2,rfl⟩:=mem_leadP.1 b;unfold yZ;rcases(zam h hi).out tq a with e|e|e
 ·rw[if_pos e];exact⟨hi,zos _⟩
 ·exact absurd e h2
 ·rw[if_neg (by have:(p.ss.length:Int)<=8:=(zB h 2 (by decide)).2.1;omega)]
  omega
def yj(p:PPlan)(h:(zD p).1=0):Wk.Par:=⟨p.ss.length,fun i=>zv (p.ss.getD i PState.z).head,fun i=>szP p (p.ss.getD i PState.z),fun i=>kv p.ss.length (ye (p.ss.getD i PState.z)),zmd h⟩
theorem zgx{n:Nat}{a:List Nat}{tq:Int}(h:a.Nodup):(zdd n a tq).Nodup:=by
 unfold zdd;by_cases e:yZ n tq<=n/\yZ n tq ∉ a
 ·rw[if_pos e];refine List.nodup_append.2 ⟨h,by simp,fun x d y b=>?_⟩
  simp only[zoD,zoA,or_false]at b;subst b;exact fun c=>e.2 (c▸d)
 ·rw[if_neg e];exact h
theorem zkW{n:Nat}{a:List Nat}{tq:Int}{j:Nat}:j∈zdd n a tq↔j∈a\/(yZ n tq=j/\j<=n):=by
 unfold zdd;by_cases e:yZ n tq<=n/\yZ n tq ∉ a
 ·rw[if_pos e,List.mem_append,zoD];constructor
  ·rintro(h|rfl|h)
   ·exact .inl h
   ·exact .inr ⟨rfl,e.1⟩
   ·cases h
  ·rintro(h|⟨rfl,_⟩)
   ·exact .inl h
   ·exact .inr (.inl rfl)
 ·rw[if_neg e];refine⟨.inl,fun h=>h.elim id fun⟨b,h2⟩=>?_⟩
  subst b;exact Decidable.byContradiction fun c=>e ⟨h2,c⟩
theorem zc6{n:Nat}:∀{l:List Int} {a:List Nat},a.Nodup->(l.foldl (zdd n) a).Nodup/\∀j,j∈l.foldl (zdd n) a↔j∈a\/∃tq∈l,yZ n tq=j/\j<=n
 |[],a,h=>⟨h,fun j=>by simp⟩
 |x::l,a,h=>by
  have b:=zc6 (n:=n) (l:=l) (zgx (n:=n) (tq:=x) h);refine⟨b.1,fun j=>?_⟩
  rw[List.foldl_cons,b.2 j,zkW];simp only[zoD,exists_eq_or_imp,or_assoc]
theorem jJ(n:Nat)(l:List Int):(xD n l).Nodup:=(zc6 (n:=n) (l:=l) List.nodup_nil).1
theorem mem_leadR{n:Nat}{l:List Int}{j:Nat}:j∈xD n l↔∃tq∈l,yZ n tq=j/\j<=n:=by
 have:=(zc6 (n:=n) (l:=l) List.nodup_nil).2 j;simpa[xD]using this
theorem qK{p:PPlan}(h:(zD p).1=0):Wk.SameLead (yj p h) (fun i=>xD p.ss.length (ye (p.ss.getD i PState.z))):=by
 intro i hi j;have b:(p.ss.length:Int)<=8:=(zB h 2 (by decide)).2.1
 show j∈xD p.ss.length (ye (p.ss.getD i PState.z))↔j∈kv p.ss.length (ye (p.ss.getD i PState.z));rw[mem_leadR,mem_leadP];constructor
 ·rintro⟨tq,a,rfl,h2⟩;refine⟨tq,a,fun e=>?_,rfl⟩
  unfold yZ at h2;rw[e,if_neg (by decide)]at h2
  have:((1001:Int).toNat)=1001:=rfl;omega
 ·rintro⟨tq,a,h2,rfl⟩;exact⟨tq,a,rfl,((yj p h).on i _ hi (mem_leadP.2 ⟨tq,a,h2,rfl⟩)).2⟩
theorem zeg{p:PPlan}(h:(zD p).1=0)(i:Nat):(yj p h).hb i<2^6:=by
 show zv (p.ss.getD i PState.z).head<2^6;by_cases hi:i<p.ss.length
 ·have a:(p.hs.length:Int)<=6:=(zB h 0 (by decide)).2.1
  have:=(zam h hi).head;unfold zv;split
  ·decide
  ·exact Nat.pow_lt_pow_right (by decide) (by omega)
 ·rw[zoi,List.getElem?_eq_none (by omega)]
  decide
theorem zkX{p:PPlan}(h:(zD p).1=0)(k:Nat):xZ (p.hs.getD k [])<=32:=by
 by_cases c:k<p.hs.length
 ·have a:yJ (p.hs.getD k [])=0:=(zB h 0 (by decide)).2.2 k c
  generalize p.hs.getD k []=ws at*;unfold yJ at a;unfold xZ;by_cases b:ws.length<1\/8<ws.length
  ·rw[if_pos b]at a;exact absurd a (by decide)
  rw[if_neg b]at a;by_cases h2:∀j,j<ws.length->Mth.Fit ws j
  ·rw[if_pos h2]at a;by_cases d:Mth.off ws ws.length%8=0/\Mth.off ws ws.length<=256
   ·omega
   ·rw[if_neg d]at a;exact absurd a (by decide)
  ·rw[if_neg h2]at a;exact absurd a (by decide)
 ·rw[zoi,List.getElem?_eq_none (by omega)]
  decide
theorem zeh{p:PPlan}(h:(zD p).1=0)(i:Nat):(yj p h).sz i<=32:=by
 show szP p (p.ss.getD i PState.z)<=32;unfold szP;split
 ·exact zon _
 ·exact zkX h _
theorem zgy{p:PPlan}{S:List Wk.Sets}{C A f j:Int}(h:zgn p S C A)(g:zgn p S f j):C=f/\A=j:=by
 rcases h with⟨n,m,i,l,rfl,rfl⟩|⟨k,rfl,rfl⟩
 ·rcases g with⟨b,e,a,d,rfl,rfl⟩|⟨c,rfl,rfl⟩
  ·have:n=b:=by
    rcases Nat.lt_trichotomy n b with h|h|h
    ·exact absurd (d n h) i
    ·exact h
    ·exact absurd (l b h) a
   subst this;exact⟨rfl,rfl⟩
  ·exact absurd (c n m) i
 ·rcases g with⟨b,e,a,d,rfl,rfl⟩|⟨c,rfl,rfl⟩
  ·exact absurd (k b e) a
  ·exact⟨rfl,rfl⟩
theorem zfY(a:Option Addr)(m c:Nat)(ws:List Int)(w:World)(hw:Has .i64 w a m ws):
 Calls Tryz.prog 57 #[HD a m c] w fun e w'=>∃x y,e=.returned (.tuple #[.int .i64 x,.agg #[.int .i64 (yJ ws),.int .i64 y]])/\Below w.heap.size w w':=by
 have o:=hw.1;by_cases n:(m:Int)<1\/8<(m:Int)
 ·have e:yJ ws=2:=by unfold yJ;rw[if_pos (by omega)]
  rw[e];exact(zgh a m c w n).mono fun _ _ ⟨h2,g⟩=>⟨0,-1,h2,g⟩
 have l:¬(ws.length<1\/8<ws.length):=by omega
 rcases zcg (Mth.Fit ws) m with d|⟨i,hi,b,f⟩
 ·have e:yJ ws=if Mth.off ws m%8=0/\Mth.off ws m<=256 then 0 else 6:=by
   unfold yJ;rw[if_neg l,o,if_pos d]
  rw[e];refine(zdH a m c ws w (by omega) (by omega) hw d).mono fun q w' ⟨x,h2,g,k⟩=>?_
  by_cases j:Mth.off ws m%8=0/\Mth.off ws m<=256
  ·rw[if_pos j];exact⟨_,_,by rw[h2,g.1 j],k⟩
  ·rw[if_neg j];exact⟨_,_,by rw[h2,g.2 j],k⟩
 ·have e:yJ ws=6:=by
   unfold yJ;rw[if_neg l,if_neg (fun h=>b (h i (by omega)))]
  rw[e];exact(zfh a m c i ws w (by omega) (by omega) hw hi f b).mono fun _ _ ⟨h2,g⟩=>⟨0,i,h2,g⟩
theorem zag{d:PlanD}{cs:Nat->Nat->Int}{k:Nat}(h:yE d cs k):∀j,j<zM d k->cs k j=0:=by
 obtain⟨A,h⟩:=h;rcases h with⟨_,h,_⟩|⟨_,⟨n,_,a,_,h,_⟩|⟨h,_,_⟩⟩
 ·cases h
 ·exact absurd h.symm a
 ·exact h
theorem jH{d:PlanD}{cs:Nat->Nat->Int}{k:Nat}(b:k<7)(a:∀j,j<k->yE d cs j)(h:(zM d k:Int)<zS k\/yh k<(zM d k:Int)):jG d cs 2 (-((k:Int)+1)):=
 .inl ⟨k,b,.inl ⟨h,rfl,rfl⟩,by decide,a⟩
theorem znJ{d:PlanD}{cs:Nat->Nat->Int}{k n:Nat}{C:Int}(c:k<7)(f:∀j,j<k->yE d cs j)(h:¬((zM d k:Int)<zS k\/yh k<(zM d k:Int)))(e:n<zM d k)(b:∀j,j<n->cs k j=0)(a:cs k n=C)(h0:C≠0):jG d cs C (1000*((k:Int)+1)+n):=
 .inl ⟨k,c,.inr ⟨h,.inl ⟨n,e,by rw[a];exact h0,b,a.symm,rfl⟩⟩,h0,f⟩
theorem qy{d:PlanD}{cs:Nat->Nat->Int}{k:Nat}(b:∀j,j<k->yE d cs j)(h:¬((zM d k:Int)<zS k\/yh k<(zM d k:Int)))(a:∀j,j<zM d k->cs k j=0):∀j,j<k+1->yE d cs j:=by
 intro j c;by_cases e:j=k
 ·subst e;exact⟨0,.inr ⟨h,.inr ⟨a,rfl,rfl⟩⟩⟩
 ·exact b j (by omega)
theorem kC{c:Nat->Int}{k:Nat}(h:∀j,j<k->c j=0)(a:c k=0):∀j,j<k+1->c j=0:=by
 intro j b;by_cases e:j=k
 ·rw[e];exact a
 ·exact h j (by omega)
theorem zj9{x:Int}(h:xC x=0):1<=x/\x<=48:=by
 unfold xC at h;split at h
 ·cases h
 ·omega
theorem zka{ws:List Int}(h:yJ ws=0):∀x∈ws,1<=x/\x<=48:=by
 intro x a;unfold yJ at h;split at h
 ·cases h
 split at h
 ·rename_i _ hf
  obtain⟨i,hi,rfl⟩:=zoR a;have:=hf i hi;unfold Mth.Fit at this;rw[zoi,zoh hi,zoC]at this;omega
 ·cases h
theorem zfZ{l:List Int}(h:zn l=0):∀x∈l,x=0:=by
 induction l with
 |nil=>intro x a;cases a
 |cons y l ih=>
  unfold zn at h;split at h
  ·rename_i hy
   exact absurd h hy
  ·rename_i hy
   intro x a;rcases zoD.1 a with rfl|a
   ·omega
   ·exact ih h x a
theorem zeQ{d:PlanD}{w:World}(g:d.lie w)(h:∀j,j<2->yE d (zO d.p) j)(r:RefD):0<=d.p.width r []/\d.p.width r []<=48:=by
 have h0:=zag (h 0 (by decide))
 have k:=zag (h 1 (by decide))
 have c:∀x∈d.p.fields r.h [],0<=x/\x<=48:=by
  intro x a;unfold PPlan.fields at a;split at a
  ·obtain⟨i,hi,rfl⟩:=zoR a;have b:i<d.ms.length:=hi;have:=k i (by show i<d.mta.n;rw[<-g.ms.1];exact b)
   have e:zO d.p 1 i=xC (d.p.ms.getD i 0):=rfl;rw[e,zoi,zoh hi,zoC]at this;have:=zj9 this;omega
  split at a
  ·cases a
  split at a
  ·simp only[zoD,zoA,or_false]at a;omega
  split at a
  ·cases a
  ·rename_i hh
   have l:r.h.toNat<d.heads.n:=by
    have:d.p.hs.length=d.heads.n:=by simp[PlanD.p,g.hs.1]
    omega
   have:=h0 r.h.toNat l;have e:zO d.p 0 r.h.toNat=yJ (d.p.hs.getD r.h.toNat []):=rfl;rw[e]at this;have:=zka this x a;omega
 unfold PPlan.width;split
 ·omega
 ·rename_i hh
  have hf:r.f.toNat<(d.p.fields r.h []).length:=by omega
  rw[zoi,zoh hf,zoC];exact c _ (List.getElem_mem hf)
theorem zkb{d:PlanD}{w:World}(b:d.lie w)(h:yE d (zO d.p) 3):∀x∈d.al,∀y∈x.ws,1<=y/\y<=64:=by
 intro x c y f;obtain⟨i,hi,rfl⟩:=zoR c;have a:i<d.acts.n:=by rw[<-b.al.1];exact hi
 have:=zag h i a;have e:zO d.p 3 i=ki d.p (d.al[i]).p:=by
  show ki d.p (d.p.al.getD i PAct.z)=_;rw[show d.p.al.getD i PAct.z=(d.al[i]).p from yY (zoh hi) _]
 rw[e]at this;unfold ki at this;split at this
 ·cases this
 ·unfold or2 at this;split at this
  ·rename_i hne
   exact absurd this hne
  ·rename_i hz
   have h0:zn ((d.al[i]).p.ws.map xC)=0:=by omega
   have:=zj9 (zfZ h0 (xC y) (zoJ.2 ⟨y,f,rfl⟩));omega
end Go.Proofs.YtdajaaondlekfaaGreat
