import Derived.OrdersHeld
import Derived.StillTail
import Derived.Deep.RegionHeld3
import Derived.Test.YtdajaaondlekfaaGreatG5
import Derived.Test.YtdajaaondlekfaaGreatG3
import Derived.Deep.DeepCutAuto
import Derived.Deep.RegionLaw
import Derived.Deep.AppendLies
import Derived.Test.YtdajaaondlekfaaGreatVBase
import Derived.Laws.IdiomStrings
set_option maxHeartbeats 4000000
set_option maxRecDepth 20000
set_option linter.unusedSimpArgs false
namespace Go.Proofs.YtdajaaondlekfaaGreat
open Go
def zbv(K:Act->World->Prop)(Q:Exit->Act->World->Prop):Exit->Act->World->Prop
 |.normal,a,w=>K a w
 |.exit i,a,w=>Q (.exit i) a w
 |.goto l,a,w=>Q (.goto l) a w
 |.ret,a,w=>Q .ret a w
 |.panic c,a,w=>Q (.panic c) a w
 |.outgrown,a,w=>Q .outgrown a w
theorem zk6{P:Program}{o:Oper}{a:Act}{K d f:Act->World->Prop}{Q:Exit->Act->World->Prop}{r:Result Next}(c:∀a w,d a w->f a w)(h:o.upon P a d (zbv K Q) r):o.upon P a f Q r:=by
 cases r with
 |ok n w'=>
  cases n<;>simp only[Oper.upon]at h ⊢<;>
   first
    |exact c _ _ h
    |exact Calls.mono h (fun e g b=>by cases e<;>first|exact c _ _ b|exact b)
    |exact Rows.mono h (fun _ _ b=>c _ _ b)
 |halt x w'=>cases x<;>simp only[Oper.upon]at h ⊢<;>exact h
theorem zk7{P:Program}{ops:Array Oper}{i:Nat}{a:Act}{w:World}{K d c:Act->World->Prop}{Q:Exit->Act->World->Prop}(b:∀a w,d a w->c a w)(h:wpOp P ops (zbv K Q) i d a w):wpOp P ops Q i c a w:=by
 unfold wpOp at*;split
 ·exact b _ _ (by simpa[*]using h)
 ·rename_i o ho
  simp only[ho]at h;split
  ·rename_i hw
   simp only[hw,if_true]at h;exact h.imp (fun h=>zk6 b h) id
  ·rename_i hw
   simp only[hw]at h;exact b _ _ h
structure CutRel (n m : Nat) (hl listed : Array Bool) : Prop where
 s1 : hl.size = m
 s2 : listed.size = m
 head : ∀ i, i < n -> hl[i]? = listed[i]?
 tl : ∀ t, n <= t -> t < m -> hl[t]? = some true /\ listed[t]? = some false
theorem CutRel.set{n m:Nat}{b a:Array Bool}(h:CutRel n m b a){i:Nat}(hi:i<n):CutRel n m (b.setIfInBounds i true) (a.setIfInBounds i true):=by
 refine⟨by simp[h.s1],by simp[h.s2],fun j c=>?_,fun t f d=>?_⟩
 ·by_cases e:i=j
  ·subst e;have:=h.head i hi;rw[Array.getElem?_setIfInBounds_self,Array.getElem?_setIfInBounds_self,h.s1,h.s2]
  ·rw[Array.getElem?_setIfInBounds_ne e,Array.getElem?_setIfInBounds_ne e];exact h.head j c
 ·rw[Array.getElem?_setIfInBounds_ne (by omega),Array.getElem?_setIfInBounds_ne (by omega)]
  exact h.tl t f d
def Region.backB(md:Region.Mode)(ops:Array Oper)(n:Nat):Bool:=
 (List.range n).all fun i=>match ops[i]? with
  |some o=>o.after.all fun e=>!Region.binds md e||decide (e.on<i)
  |none=>false
def Region.waitB(md:Region.Mode)(ops:Array Oper)(n:Nat):Bool:=
 (List.range ops.size).all fun t=>decide (t<n)||(List.range n).all fun i=>Region.waitsFor md ops t i
theorem zdO(p:Nat->Bool):∀n,(∃j,j<n/\p j=false)->∃j,j<n/\p j=false/\∀i,i<j->p i=true
 |0,⟨j,hj,_⟩=>by omega
 |n+1,⟨j,hj,hp⟩=>by
  by_cases h:∃i,i<n/\p i=false
  ·obtain⟨i,d,h2,c⟩:=zdO p n h;exact⟨i,by omega,h2,c⟩
  ·have b:j=n:=by
    by_cases e:j<n
    ·exact absurd ⟨j,e,hp⟩ h
    ·omega
   subst b;refine⟨j,hj,hp,fun i hi=>?_⟩
   cases a:p i with
   |true=>rfl
   |false=>exact absurd ⟨i,hi,a⟩ h
theorem ziT{P:Program}{md:Region.Mode}{ops:Array Oper}{Q:Exit->Act->World->Prop}{K:Act->World->Prop}{n g:Nat}{E:Array Bool}(hn:n<=ops.size)(u:Region.backB md ops n=true)(x:Region.waitB md ops n=true)
 (S:E.size=ops.size/\(∀i,i<n->E[i]?=some true)/\∀t,n<=t->t<ops.size->E[t]?=some false) (hK:∀a w,K a w->wpAny P md ops Q g E a w):
 ∀(f:Nat) (d b:Array Bool) (a:Act) (w:World),CutRel n ops.size d b->d.toList.count false=f->wpAny P md ops (zbv K Q) f d a w->wpAny P md ops Q (f+g) b a w:=by
 intro f;induction f with
 |zero=>
  intro d b a w hr M h;have k:∀i,i<ops.size->d[i]?=some true:=fun i hi=>by
   have h0:false ∉ d.toList:=List.count_eq_zero.1 M;have A:i<d.size:=by rw[hr.s1];exact hi
   rw[Array.getElem?_eq_getElem A];cases hx:d[i]with
   |true=>rfl
   |false=>exact absurd (by rw[<-hx];exact Array.getElem_mem_toList A) h0
  have e:b=E:=by
   refine Array.ext (by rw[hr.s2,S.1]) fun i c h2=>?_
   have hi:i<ops.size:=by rw[<-hr.s2];exact c
   have:b[i]?=E[i]?:=by
    by_cases l:i<n
    ·rw[<-hr.head i l,k i hi,S.2.1 i l]
    ·rw[(hr.tl i (by omega) hi).2,S.2.2 i (by omega) hi]
   rw[Array.getElem?_eq_getElem c,Array.getElem?_eq_getElem h2]at this;exact Option.some.inj this
  subst e;rw[Nat.zero_add];exact hK a w h.2
 |succ f ih=>
  intro d b a w hr M h;rw[show f+1+g=(f+g)+1 by omega]
  have B:∃j,j<n/\b.getD j true=false:=by
   have hm:false∈d.toList:=List.count_pos_iff.1 (by omega)
   obtain⟨j,C,e⟩:=List.getElem_of_mem hm;have G:j<d.size:=by simpa using C
   have r:j<ops.size:=by rw[<-hr.s1];exact G
   have X:d[j]?=some false:=by rw[Array.getElem?_eq_getElem G];simpa using e
   by_cases D:j<n
   ·refine⟨j,D,?_⟩;have:=hr.head j D;rw[X]at this;rw[Array.getD_eq_getD_getElem?,<-this];rfl
   ·have:=(hr.tl j (by omega) r).1
    rw[X]at this;cases this
  refine⟨fun h0=>?_,fun i hi=>?_⟩
  ·exfalso
   obtain⟨j,C,s,U⟩:=zdO (fun j=>b.getD j true) n B
   have r:j<ops.size:=by omega
   have hb:=List.all_eq_true.1 u j (List.mem_range.2 C);rw[Array.getElem?_eq_getElem r]at hb;have:j∈Region.ready md ops b:=mem_ready.2 ⟨s,ops[j],Array.getElem?_eq_getElem r,fun e J R=>by
    have c:=Array.all_eq_true'.1 hb e J;rw[R]at c;have h2:e.on<j:=by simpa using c
    have H:=U _ h2;have y:e.on<b.size:=by rw[hr.s2];omega
    rw[Array.getD_eq_getD_getElem?,Array.getElem?_eq_getElem y]at H ⊢;exact H⟩
   rw[h0]at this;cases this
  ·obtain⟨m,o,I,k⟩:=mem_ready.1 hi;have q:i<ops.size:=(Array.getElem?_eq_some_iff.1 I).1;have l:i<n:=by
    by_cases e:i<n
    ·exact e
    ·exfalso
     have c:=List.all_eq_true.1 x i (List.mem_range.2 q);obtain⟨j,C,s⟩:=B;simp only[Bool.or_eq_true,decide_eq_true_eq]at c;rcases c with c|c
     ·exact e c
     ·obtain⟨Y,W,ed,T,V,O⟩:=Region.waitsFor_spec (List.all_eq_true.1 c j (List.mem_range.2 C));have:Y=o:=Option.some.inj (W.symm.trans I);subst this;have h2:=k ed T V;rw[O,getD_both s]at h2;cases h2
   have F:i∈Region.ready md ops d:=mem_ready.2 ⟨by
    have:=hr.head i l;rw[Array.getD_eq_getD_getElem?]at m ⊢;rw[this];exact m,o,I,fun e J hb=>by
    have c:=k e J hb;have h2:e.on<n:=by
     by_cases H:e.on<n
     ·exact H
     ·exfalso
      by_cases y:e.on<ops.size
      ·have:=(hr.tl e.on (by omega) y).2
       rw[Array.getD_eq_getD_getElem?,this]at c;cases c
      ·rw[Array.getD_eq_getD_getElem?,Array.getElem?_eq_none (by rw[hr.s2];omega)]at c
       cases c
    have:=hr.head e.on h2;rw[Array.getD_eq_getD_getElem?]at c ⊢;rw[this];exact c⟩
   refine zk7 (fun Z w' h'=>ih (d.setIfInBounds i true) (b.setIfInBounds i true) Z w' (hr.set l) ?_ h') (h.2 i F)
   have N:i<d.toList.length:=by rw[Array.length_toList,hr.s1];exact q
   have L:d.toList[i]=false:=by
    have:=hr.head i l;have y:i<b.size:=by rw[hr.s2];exact q
    rw[Array.getD_eq_getD_getElem?,Array.getElem?_eq_getElem y]at m;rw[Array.getElem?_eq_getElem y]at this;have h5:i<d.size:=by rw[hr.s1];exact q
    rw[Array.getElem?_eq_getElem h5]at this;simp only[Option.some.injEq,Option.getD_some]at this m;rw[Array.getElem_toList,this];exact m
   rw[Array.toList_setIfInBounds,List.count_set N,L,M];simp
theorem jL{l rest:List Oper}{i:Nat}{o:Oper}(h:l.drop i=o::rest):l.toArray[i]?=some o:=by
 have:(l.drop i)[0]?=some o:=by rw[h];rfl
 rw[List.getElem?_drop,Nat.add_zero]at this;rw[List.getElem?_toArray,this]
theorem zfy{x y:Bool}{n m i:Nat}(h:i<n):(List.replicate n x++List.replicate m y).toArray[i]?=some x:=by
 rw[List.getElem?_toArray,List.getElem?_append_left (by simpa using h),List.getElem?_replicate,if_pos h]
theorem zdP{x y:Bool}{n m t:Nat}(h:n<=t)(h2:t<n+m):(List.replicate n x++List.replicate m y).toArray[t]?=some y:=by
 rw[List.getElem?_toArray,List.getElem?_append_right (by simpa using h),List.length_replicate,List.getElem?_replicate,if_pos (by omega)]
theorem zho{m i:Nat}(h:i<m):(Array.replicate m false)[i]?=some false:=by
 rw[Array.getElem?_replicate,if_pos h]
def Region.cutB(l:List Oper)(n:Nat):Bool:=
 decide (n<=l.toArray.size)&&Region.backB .any l.toArray n&&Region.waitB .any l.toArray n&&Region.seqB .any l.toArray (l.drop n).length n (List.replicate n true++List.replicate (l.length-n) false).toArray
theorem zde{P:Program}{s:Nat}{Q:Exit->Act->World->Prop}{a:Act}{w:World}{l:List Oper}(n:Nat)(c:P.follows .mixedOrders=true)(f:Region.cutB l n=true)
 (h:wpAny P .any l.toArray (zbv (fun a w=>wpList P l.toArray Q (l.drop n) a w) Q) n (List.replicate n false++List.replicate (l.length-n) true).toArray a w.drew):(Code.region s l.toArray true).wp P Q a w:=by
 simp only[Region.cutB,Bool.and_eq_true,decide_eq_true_eq]at f;obtain⟨⟨⟨k,h2⟩,o⟩,r⟩:=f;have m:n<=l.length:=by simpa using k
 refine wp_region_any c ?_;have hs:l.toArray.size=n+(l.length-n):=by simp;omega
 have b:=ziT (P:=P) (md:=.any) (ops:=l.toArray) (Q:=Q) (K:=fun a w=>wpList P l.toArray Q (l.drop n) a w) (n:=n) (g:=(l.drop n).length) (E:=(List.replicate n true++List.replicate (l.length-n) false).toArray) k h2 o
  ⟨by simp;omega,fun i hi=>zfy hi,fun t d c=>zdP d (by omega)⟩
  (fun a w q=>wpAny_of_seq (l.drop n) n _ a w (fun j=>by simp) r q)
  n (List.replicate n false++List.replicate (l.length-n) true).toArray (Array.replicate l.toArray.size false) a w.drew
  ⟨by simp;omega,by simp,fun i hi=>by rw[zfy hi,zho (by omega)],fun t d c=>⟨zdP d (by omega),zho c⟩⟩
  (by simp[List.count_append,List.count_replicate]) h
 rw[hs];rw[hs]at b;have e:(l.drop n).length=l.length-n:=by simp
 rw[e]at b;exact b
end Go.Proofs.YtdajaaondlekfaaGreat
namespace Go.Proofs.YtdajaaondlekfaaGreat
open Go.RowKit
@[reducible] def kQ(b:Nat):Value:=.pointer (some ⟨b,0,none⟩)
theorem zgk{W:World}{b:Nat}{k:VMK}{m:VMD}{w:World}(h:VMAt W b k m w){r:Nat}(hr:r<10):Calls Tryz.prog 94 #[kQ b,.int .i64 (r:Int)] w fun e w'=>e=.returned (.int .u64 (m.rn r:Int))/\w'=w:=by
 have c:=h.rn r hr;have d:=h.lt;have a:(r:Int)<10:=by omega
 clear h;go_enter Tryz.func94,Tryz.ntmps94
 go_wp2;go_ret;exact⟨rfl,rfl⟩
theorem zhh(n:Int)(w:World):Calls Tryz.prog 89 #[.int .u64 n] w fun e w'=>e=.returned (.agg #[.int .u64 n,.bool true])/\w'=w.alloc (.cells #[.int .u64 n,.bool true] 100):=by
 go_enter Tryz.func89,Tryz.ntmps89
 go_wp2;exact bodyPost_ret (v:=.agg #[.int .u64 n,.bool true]) (by simp[results,Tryz.results89,go_sem, *]) rfl ⟨rfl,rfl⟩
def HasC(w:World)(a:Option Addr)(bs:List Bool):Prop:=∀i x,bs[i]?=some x->∃g off n,a=some ⟨g,off,none⟩/\w.cell? ⟨g,off+i*2,none⟩=some (.int .u64 n)/\w.cell? ⟨g,off+i*2+1,none⟩=some (.bool x)
theorem HasC.step{w w':World}{a:Option Addr}{bs:List Bool}(h:HasC w a bs)(hb:Below w.heap.size w w'):HasC w' a bs:=fun i x c=>by
 obtain⟨g,off,n,e,b,h2⟩:=h i x c;exact⟨g,off,n,e,za b hb,za h2 hb⟩
theorem zhi{w:World}{a:Option Addr}{bs:List Bool}(c:Nat)(h:HasC w a bs)(E:bs.length<=100):Calls Tryz.prog 127 #[.slice a bs.length c] w (zw (bs.all id) w):=by
 obtain⟨n,hnn⟩:∃n,n=bs.length:=⟨_,rfl⟩;rw[<-hnn]at E ⊢;have y:=hid hnn;have F:=hid h;have G:Hid (∀w',bs.all id=true->Below w.heap.size w w'->zw (bs.all id) w (.returned (.bool true)) w'):=fun w' e h=>⟨by rw[e],h⟩
 have D:Hid (∀w',bs.all id=false->Below w.heap.size w w'->zw (bs.all id) w (.returned (.bool false)) w'):=fun w' e h=>⟨by rw[e],h⟩
 clear h hnn;go_enter Tryz.func127,Tryz.ntmps127
 go_wp2;go_loopw [7,4] (fun q _ wr=>∃i:Nat,i<=n/\q=.int .i64 i/\Hid (Below w.heap.size w wr)/\Hid (∀j x,j<i->bs[j]?=some x->x=true)) (fun q _ _=>n-(intOf q).toNat)
 case atStart=>exact⟨0,zon _,rfl,zof _ _,fun j t k=>absurd k (zoN _)⟩
 case round=>
  obtain⟨i,hi,rfl,hb,A⟩:=hrel;by_cases C:i<n
  ·have m:(i:Int)<(n:Int):=by omega
   have b:bs[i]?=some bs[i]:=zoh _;obtain⟨g,off,v,rfl,c0,c1⟩:=F.out.step hb.out i _ b;have f:=hid b;generalize bs[i]'(by have:=y.out;omega)=x at*
   clear b;have d:Hid (∀o,Below w.heap.size w (wr.alloc o)):=fun o=>ze hb.out
   cases x with
   |true=>
    have l:Hid (∀j x,j<i+1->bs[j]?=some x->x=true):=fun j u k s=>by
     rcases Nat.lt_or_ge j i with h|h
     ·exact A.out j u h s
     ·obtain rfl:j=i:=by omega
      rw[f.out]at s;exact(zoq s).symm
    go_wp2;go_roundw
    case rel=>exact⟨i+1,by omega,by go_num,d.out _,l⟩
    case measure=>simp[intOf];omega
   |false=>
    have r:Hid (bs.all id=false):=by
     show _=_;rw[List.all_eq_false];exact⟨false,zol f.out,by simp⟩
    go_wp2;go_ret;exact D.out _ r.out (d.out _)
  ·have m:¬(i:Int)<(n:Int):=by omega
   have r:Hid (bs.all id=true):=by
    show _=_;rw[List.all_eq_true];intro x B;obtain⟨j,k,rfl⟩:=zoR B;exact A.out j _ (by have:=y.out;omega) (zoh k)
   go_wp2;go_ret;exact G.out _ r.out hb.out
def jy(n f l:Nat):Bool:=decide (f<=n)&&decide (l<=n-f)
theorem zkK{W:World}{b:Nat}{k:VMK}{m:VMD}{w:World}(h:VMAt W b k m w)(j:k.pk.n<=600)(f l:Nat)(hf:f<18446744073709551616):Calls Tryz.prog 96 #[kQ b,.int .u64 (f:Int),.int .u64 (l:Int)] w fun e w'=>e=.returned (.bool (jy k.pk.n f l))/\w'=w:=by
 have c:=h.c2;have hb:=h.lt;have o:=xF (k.pk.n:Int) (by omega) (by omega)
 generalize k.pk=q at*;obtain⟨a,n,cc⟩:=q;dsimp only at*;clear h;unfold jy;by_cases i:f<=n
 ·have g:(f:Int)<=(n:Int):=by omega
  have hs:IntKind.u64.wrap ((n:Int)-(f:Int))=((n-f:Nat):Int):=by rw[xF _ (by omega) (by omega)];omega
  obtain⟨d,hd⟩:∃d,d=n-f:=⟨_,rfl⟩;rw[<-hd]at hs ⊢;rw[zoY i,Bool.true_and];clear hd i;go_enter Tryz.func96,Tryz.ntmps96
  go_wp2;go_ret;exact⟨rfl,rfl⟩
 ·have g:¬(f:Int)<=(n:Int):=by omega
  rw[zoX i,Bool.false_and];go_enter Tryz.func96,Tryz.ntmps96
  go_wp2;go_ret;exact⟨rfl,rfl⟩
def zaP(k:VMK)(m:VMD)(x:InsD):Nat:=
 if x.op=1 then x.n.toNat else if x.op=2 then m.rn x.s.toNat else if x.op=3 then zb7 x.k (m.rn x.r.toNat) (m.rn x.s.toNat)else if x.op=4 then 18446744073709551615-m.rn x.r.toNat else if x.op=5 then(Mth.add (m.rn x.r.toNat:Int) (m.rn x.s.toNat:Int)).toNat else if x.op=7 then m.sn x.n.toNat else k.port
def qF(k:VMK)(m:VMD)(x:InsD):Bool:=
 if x.op=9 then !jy k.pk.n (m.rn x.r.toNat) x.n.toNat else if x.op=10 then decide (m.rn x.r.toNat<m.rn x.s.toNat)else if x.op=11 then decide (m.rn x.r.toNat=m.rn x.s.toNat)else decide (x.op=12)
theorem zlX(op:Int)(a b:Nat)(ha:a<18446744073709551616)(hb:b<18446744073709551616):zb7 op a b<18446744073709551616:=by
 have c:(18446744073709551616:Nat)=2^64:=by decide
 unfold zb7;repeat' split
 all_goals first
  |exact Nat.mod_lt _ (by decide)
  |exact Nat.lt_of_le_of_lt Nat.and_le_left ha
  |(rw[c]at ha hb ⊢;exact Nat.or_lt_two_pow ha hb)
  |(rw[c]at ha hb ⊢;exact Nat.xor_lt_two_pow ha hb)
  |decide
  |exact Nat.lt_of_le_of_lt (Nat.div_le_self _ _) ha
theorem ziz(a b:Int):Mth.add (wrap64 a) (wrap64 b)=Mth.add a b:=by
 have h:∀n:Int,wrap64 n%65536=n%65536:=fun n=>by
  unfold wrap64;omega
 unfold Mth.add;rw[h a,h b]
theorem zkG(z:Nat)(a:z<2^64):(2^64-1) ^^^ z=2^64-(z+1):=by
 refine Nat.eq_of_testBit_eq fun k=>?_
 rw[Nat.testBit_xor,Nat.testBit_two_pow_sub_one,Nat.testBit_two_pow_sub_succ a];by_cases b:k<64
 ·simp[b]
 ·have:z.testBit k=false:=Nat.testBit_lt_two_pow (zom a (Nat.pow_le_pow_right (by decide) (by omega)))
  simp[b,this]
theorem zn7(z:Nat)(a:z<18446744073709551616):bits .xor .u64 IntKind.u64.max (z:Int)=((18446744073709551615-z:Nat):Int):=by
 have e:IntKind.u64.max=((18446744073709551615:Nat):Int):=by decide
 rw[e,u64_xor_nat _ _ (by decide) (by omega)]
 have:=zkG z (by omega)
 have h2:(18446744073709551615:Nat)=2^64-1:=by decide
 rw[h2,this];omega
theorem zkH{W:World}{b:Nat}{k:VMK}{m:VMD}{w:World}(h:VMAt W b k m w)(x:InsD)(c:0<=x.n/\x.n<18446744073709551616)(a:k.port<18446744073709551616):zaP k m x<18446744073709551616:=by
 unfold zaP;repeat' split
 ·omega
 ·exact h.ok.1 _
 ·exact zlX _ _ _ (h.ok.1 _) (h.ok.1 _)
 ·omega
 ·have:=Mth.add_range (m.rn x.r.toNat:Int) (m.rn x.s.toNat:Int);omega
 ·exact h.ok.2 _
 ·exact a
theorem znO{W:World}{b:Nat}{k:VMK}{m:VMD}{w:World}(h:VMAt W b k m w)(x:InsD)(hr:0<=x.r/\x.r<10)(hs:0<=x.s/\x.s<10)(hn:0<=x.n)(u:x.op=7->x.n<96)(K:x.op=1\/x.op=2\/x.op=3\/x.op=4\/x.op=5\/x.op=7\/x.op=18):
 Calls Tryz.prog 90 #[kQ b,x.v] w fun e w'=>e=.returned (.int .u64 (zaP k m x:Int))/\Below w.heap.size w w':=by
 obtain⟨op,r,s,C,R,n⟩:=x;dsimp only at hr hs hn u K;obtain⟨r,rfl⟩:∃i:Nat,r=i:=⟨r.toNat,by omega⟩
 obtain⟨s,rfl⟩:∃i:Nat,s=i:=⟨s.toNat,by omega⟩
 obtain⟨n,rfl⟩:∃i:Nat,n=i:=⟨n.toNat,by omega⟩
 obtain⟨g,hW1⟩:∃g,g=w.alloc (.cells #[.int .i64 op,.int .i64 (r:Int),.int .i64 (s:Int),.int .i64 C,.int .i64 R,.int .u64 (n:Int)] 126):=⟨_,rfl⟩;obtain⟨ib,hib⟩:∃b,b=w.heap.size:=⟨_,rfl⟩;have Q:Below w.heap.size w g:=by rw[hW1];exact ze (zof _ _)
 have IB:IBox ⟨op,r,s,C,R,n⟩ g ib:=by rw[hW1,hib];exact ji ⟨op,r,s,C,R,n⟩ w
 obtain⟨U,I,J,N,G,O⟩:=IB;dsimp only at U I J N G O;have F:=h.step Q;have hl:=F.lt;have a0:ib<g.heap.size:=zog _ _ U;have o:Hid (∀p:zq g,Calls Tryz.prog 94 #[kQ b,.int .i64 (r:Int)] p.to fun e c=>e=.returned (.int .u64 (m.rn r:Int))/\c=p.to):=fun p=>zgk (F.step p.h) (by omega)
 have q:Hid (∀p:zq g,Calls Tryz.prog 94 #[kQ b,.int .i64 (s:Int)] p.to fun e c=>e=.returned (.int .u64 (m.rn s:Int))/\c=p.to):=fun p=>zgk (F.step p.h) (by omega)
 have c3:=F.c3;have B:=h.ok.1 r;have H:=h.ok.1 s;have t:=hid Q;have f:=hid hW1;have d:=hid hib;have a:Hid (n<96->g.cell? ⟨b,20+n*2,none⟩=some (.int .u64 (m.sn n:Int))):=F.sn n;dsimp only[InsD.v];unfold zaP;dsimp only;rw[zov,zov,zov];clear h F Q hW1 hib;haveI inhB:∀w:World,Inhabited (zq w):=fun w=>⟨⟨w,zof _ _⟩⟩
 rcases K with rfl|rfl|rfl|rfl|rfl|rfl|rfl
 ·clear o q a;rw[if_pos rfl];go_enter Tryz.func90,Tryz.ntmps90
  go_upto_region 1 with fail
  rw[<-f.out,<-d.out];clear f d;go_wp2;go_ret;exact⟨rfl,t.out⟩
 ·rw[if_neg (by decide),if_pos rfl]
  have D:=hid (q.out ⟨g,zof _ _⟩);dsimp only at D;clear o q a;go_enter Tryz.func90,Tryz.ntmps90
  go_upto_region 1 with fail
  rw[<-f.out,<-d.out];clear f d;go_wp2_with fail
  refine D.out.mono ?_;rintro e w2 ⟨rfl,rfl⟩;clear D;go_wp2;go_ret;exact⟨rfl,t.out⟩
 ·rw[if_neg (by decide),if_neg (by decide),if_pos rfl]
  have E:Hid (∀p:zq g,Calls Tryz.prog 129 #[.int .i64 C,.int .u64 (m.rn r:Int),.int .u64 (m.rn s:Int)] p.to fun e c=>e=.returned (.int .u64 ((zb7 C (m.rn r) (m.rn s):Nat):Int))/\c=p.to):=fun p=>ziS C _ _ B H p.to
  generalize zb7 C (m.rn r) (m.rn s)=V at*;generalize m.rn r=X at*;generalize m.rn s=Y at*;have S:=zm I;have T:=zm J;have Z:=zm N;clear a B H G O c3;go_enter Tryz.func90,Tryz.ntmps90
  go_upto_region 1 with fail
  rw[<-f.out,<-d.out];clear f d;go_wp2_with fail
  refine zi (by kernel_rfl) (by kernel_rfl) ?_
  repeat (go_big_quiet_step (first|(go_at_call 94;with_reducible exact zt _ (o.out _))|(go_at_call 94;with_reducible exact zt _ (q.out _))|(go_at_call 129;with_reducible exact zt _ (E.out _))))
  refine wpQuiet_nil ?_;intro wq y;obtain⟨⟨_,j⟩,l⟩:=y;subst l;have P:=hid (zh t.out j);clear t j E o q;go_wp2;go_ret;exact⟨rfl,P.out⟩
 ·rw[if_neg (by decide),if_neg (by decide),if_neg (by decide),if_pos rfl]
  have A:=hid (o.out ⟨g,zof _ _⟩);dsimp only at A;have hv:=hid (zn7 (m.rn r) B);generalize m.rn r=X at*;clear o q a B H G O c3;go_enter Tryz.func90,Tryz.ntmps90
  go_upto_region 1 with fail
  rw[<-f.out,<-d.out];clear f d;go_wp2_with fail
  refine A.out.mono ?_;rintro e w2 ⟨rfl,rfl⟩;clear A;go_wp2;go_ret;exact⟨xv hv.out,t.out⟩
 ·rw[if_neg (by decide),if_neg (by decide),if_neg (by decide),if_neg (by decide),if_pos rfl]
  have M:=Mth.add_range (m.rn r:Int) (m.rn s:Int);have E:Hid (∀p:zq g,Calls Tryz.prog 130 #[.int .i64 (wrap64 (m.rn r:Int)),.int .i64 (wrap64 (m.rn s:Int))] p.to fun e c=>e=.returned (.int .i64 (Mth.add (m.rn r:Int) (m.rn s:Int)))/\c=p.to):=fun p=>by
   have:=zlU (wrap64 (m.rn r:Int)) (wrap64 (m.rn s:Int)) p.to;rw[ziz]at this;exact this
  obtain⟨V,hV⟩:∃V:Nat,Mth.add (m.rn r:Int) (m.rn s:Int)=V:=⟨(Mth.add (m.rn r:Int) (m.rn s:Int)).toNat,by omega⟩
  rw[hV]at E M ⊢;rw[zov];have a1:=xF (V:Int) (by omega) (by omega)
  generalize m.rn r=X at*;generalize m.rn s=Y at*;have S:=zm I;have T:=zm J;clear a B H G O c3 hV M;go_enter Tryz.func90,Tryz.ntmps90
  go_upto_region 1 with fail
  rw[<-f.out,<-d.out];clear f d;go_wp2_with fail
  refine zi (by kernel_rfl) (by kernel_rfl) ?_
  repeat (go_big_quiet_step (first|(go_at_call 94;with_reducible exact zt _ (o.out _))|(go_at_call 94;with_reducible exact zt _ (q.out _))|(go_at_call 130;with_reducible exact zt _ (E.out _))))
  refine wpQuiet_nil ?_;intro wq y;obtain⟨⟨_,j⟩,l⟩:=y;subst l;have P:=hid (zh t.out j);clear t j E o q;go_wp2;go_ret;exact⟨rfl,P.out⟩
 ·rw[if_neg (by decide),if_neg (by decide),if_neg (by decide),if_neg (by decide),if_neg (by decide),if_pos rfl]
  have L:=u rfl;have n0:=a.out (by omega)
  generalize m.sn n=Y at*;have a2:(n:Int)<96:=by omega
  clear o q a B H I J N G c3 u L;go_enter Tryz.func90,Tryz.ntmps90
  go_upto_region 1 with fail
  rw[<-f.out,<-d.out];clear f d;go_wp2_with fail
  go_region_held3 (fun w'=>w'.cell? ⟨ib,5,none⟩=some (.int .u64 (n:Int))/\w'.cell? ⟨b,20+n*2,none⟩=some (.int .u64 (Y:Int))) (go_keep) (fail)
  all_goals
   go_wp2;go_ret;exact⟨rfl,t.out.drew⟩
 ·rw[if_neg (by decide),if_neg (by decide),if_neg (by decide),if_neg (by decide),if_neg (by decide),if_neg (by decide)]
  clear o q a B H I J N G;go_enter Tryz.func90,Tryz.ntmps90
  go_upto_region 1 with fail
  rw[<-f.out,<-d.out];clear f d;go_wp2;go_ret;exact⟨rfl,t.out⟩
theorem GFram.put{b:Nat}{w:World}(o:Nat)(v:Value):GFram b w (w.setCell ⟨b,o,none⟩ v):=⟨by rw[zow];exact zos _,fun k cs T f a _ h=>(zop _ _ _ _ (by show k≠b;exact a)).trans h⟩
def yo(W:World)(b:Nat)(k:VMK)(a:VMD)(w:World)(v:Value)(e:Ending)(w':World):Prop:=e=.returned v/\VMAt W b k a w'/\GFram b w w'
theorem zkJ{W:World}{b:Nat}{k:VMK}{m:VMD}{w d:World}(h:VMAt W b k m w){v v':Value}{l:List Int}(c:w.ownsRow W.heap.size 5 1 v m.out.length (BB m.out))(r:w.grownBy d v.ownBlock)(s:d.ownsRow W.heap.size 5 1 v' (m.out.length+l.length) (BB m.out++BB l))(q:zdZ l):
 VMAt W b k (m.send l) (d.setCell ⟨b,216,none⟩ v')/\d.cell? ⟨b,216,none⟩=w.cell? ⟨b,216,none⟩/\d.frozen? ⟨b,216,none⟩=false/\b<d.heap.size:=by
 obtain⟨cs,n⟩:=h.ty;have f:d.heap[b]?=some (.cells cs 104 (0,0)):=(r.block b h.lt (fun e=>zhc c n e.symm)).trans n
 have a:∀o,d.cell? ⟨b,o,none⟩=w.cell? ⟨b,o,none⟩:=fun o=>by
  unfold World.cell?;dsimp only;rw[f,n]
 obtain⟨v0,h0,_⟩:=h.ow;have j:(m.out++l).length=m.out.length+l.length:=zor;refine⟨⟨fun i hi=>zC (by omega) ((a _).trans (h.rn i hi)),fun i hi=>zC (by omega) ((a _).trans (h.rs i hi)),fun i hi=>zC (by omega) ((a _).trans (h.sn i hi)),fun i hi=>zC (by omega) ((a _).trans (h.ss i hi)),zC (by omega) ((a _).trans h.c0),zC (by omega) ((a _).trans h.c1),zC (by omega) ((a _).trans h.c2),zC (by omega) ((a _).trans h.c3),⟨v',zfl ((a _).trans h0),?_⟩,zcZ ⟨cs,f⟩,h.low,?_,h.ok.send l,?_⟩,a _,by simp[World.frozen?,f],(zoj.1 f).1⟩
 ·have e:BB (m.send l).out=BB m.out++BB l:=by simp[BB,VMD.send]
  rw[e,show(m.send l).out.length=m.out.length+l.length from j]
  exact zkE s ⟨cs,f⟩
 ·exact(h.bel.grown r h.bel.size fun k t=>(zef c t).1).setCell (p:=⟨b,216,none⟩) h.low _
 ·intro y g;rcases List.mem_append.1 g with g|g
  ·exact h.byt y g
  ·exact q y g
theorem zdJ{w:World}{B n:Nat}{v:Value}{xs:List Value}(h:w.ownsRow B 5 1 v n xs):∃a c,v=.slice a n c:=by
 rcases h.2 with⟨e,d⟩|⟨g,cap,b,e,_⟩
 ·exact⟨none,0,by rw[e,d]⟩
 ·exact⟨_,_,e⟩
theorem zhg{W:World}{b:Nat}{k:VMK}{m:VMD}{w:World}(h:VMAt W b k m w){ad:Option Addr}{n:Nat}(c2:Nat){l:List Int}(u:Has .u8 w ad n l)(F:ad=none->n=0/\c2=0)(hs:m.out.length+n<=100000000):Calls Tryz.prog 133 #[kQ b,.slice ad n c2] w (yo W b k (m.send l) w (.tuple #[])):=by
 obtain⟨v,H,h2⟩:=h.ow;have G:=h.lt;have q:zdZ l:=fun x J=>by
  have:=bounds_u8 (u.2.1 x J);omega
 obtain⟨E,hi,r,s,o⟩:=info_parts Tryz.info5;have d:=u.1;obtain⟨v',c,a,g,i⟩:∃v' c,(Builtin.append_ #[48,48] 48 #[v,.slice ad n c2]).run Tryz.prog w=.ok v' c/\c.ownsRow W.heap.size 5 1 v' (m.out.length+n) (BB m.out++BB l)/\w.grownBy c v.ownBlock:=by
  cases ad with
  |none=>
   obtain⟨rfl,rfl⟩:=F rfl;obtain rfl:l=[]:=zoG d;refine⟨v,w,run_append_owned_none (P:=Tryz.prog) w W.heap.size 48 48 5 E 1 Tryz.underlying48 hi v m.out.length (BB m.out) h2,?_,World.grownBy.refl _ _⟩;simpa[BB]using h2
  |some ad=>
   obtain⟨v',c,a,g,i,-⟩:=run_append_own (P:=Tryz.prog) w W.heap.size 48 48 5 E (.int .u8 0) 1 1 Tryz.underlying48 hi r s o rfl (by decide) v m.out.length (BB m.out) h2 ad n c2 (BB l) (by simp[BB];omega) (zht u) (zmF l) (by unfold maxLen;omega) (by omega) h.bel.size
   exact⟨v',c,a,g,i⟩
 rw[<-d]at g;obtain⟨D,L,Q,N⟩:=zkJ h h2 i g q;rw[H]at L;have t:GFram b w (c.setCell ⟨b,216,none⟩ v'):=GFram.trans ⟨i.size,fun j cs T f _ I y=>(i.block j (zoj.1 y).1 (fun e=>by
  obtain⟨_,K,B⟩:=zef h2 e.symm;rw[y]at B;simp only[zoo,Obj.cells.injEq]at B;exact I B.2.1)).trans y⟩ (GFram.put 216 v')
 obtain⟨O,M,rfl⟩:=zdJ h2;obtain⟨C,A,rfl⟩:=zdJ g;have HD:Hid (yo W b k (m.send l) w (.tuple #[]) (.returned (.tuple #[])) (c.setCell ⟨b,216,none⟩ (.slice C (m.out.length+l.length) A))):=⟨rfl,D,t⟩;clear h h2 u F hs q g i D d hi r s o t;go_enter Tryz.func133,Tryz.ntmps133
 go_wp2_with (at_builtin;refine jj rfl _ _ rfl rfl rfl a ?_)
 go_end0
 exact HD.out
def kP(n:Nat):Nat->List Int
 |0=>[]
 |s+1=>((n/2^(8*s)%256:Nat):Int)::kP n s
theorem zc1(n:Nat):∀s,(kP n s).length=s
 |0=>rfl
 |s+1=>by rw[kP,List.length_cons,zc1 n s]
theorem ziB(m:VMD)(a c:List Int):(m.send a).send c=m.send (a++c):=by simp[VMD.send]
theorem zn9{W:World}{b:Nat}{k:VMK}{m:VMD}{w:World}(h:VMAt W b k m w)(n size:Nat)(R:size<=8)(hs:m.out.length<=90000000):Calls Tryz.prog 93 #[kQ b,.int .u64 (n:Int),.int .i64 (size:Int)] w (yo W b k (m.send (kP n size)) w (.tuple #[])):=by
 have O:Hid (∀(a:VMD) (w':World) (x:Int),VMAt W b k a w'->0<=x/\x<256->a.out.length<=95000000->Calls Tryz.prog 133 #[kQ b,.slice (some ⟨w'.heap.size,0,none⟩) 1 1] (w'.alloc (.cells #[.int .u8 x] 5)) (yo W b k (a.send [x]) (w'.alloc (.cells #[.int .u8 x] 5)) (.tuple #[]))):=fun a w' x L s Q=>zhg (L.step (ze (zof _ _))) 1 ⟨rfl,by intro y E;simp only[zoD,zoA,or_false]at E;rw[E];exact zi6 x s,.inr ⟨w'.heap.size,0,rfl,by simp,fun i hi=>by
  obtain rfl:i=0:=by omega
  simp⟩⟩ (by simp) (by show a.out.length+1<=_;omega)
 have K:=hid h;have F:=hid hs;have hw:=xE ((size:Int)-1) (by omega) (by omega)
 have J:Hid (∀i:Nat,i<8->IntKind.u8.wrap ((n:Int)/2^(8*i))=((n/2^(8*i)%256:Nat):Int)):=fun i _=>by
  show IntKind.u8.wrap ((n:Int)/2^(8*i))=_;rw[<-zmP];congr 1
 clear h hs;go_enter Tryz.func93,Tryz.ntmps93
 go_wp2;go_loopw [6] (fun q wr=>∃(i:Nat) (a:VMD),i<=size/\q=.int .i64 ((i:Int)-1)/\Hid (a.send (kP n i)=m.send (kP n size))/\Hid (a.out.length+i=m.out.length+size)/\Hid (VMAt W b k a wr)/\Hid (GFram b w wr)) (fun q _=>(intOf q+1).toNat)
 case atStart=>exact⟨size,m,zos _,rfl,rfl,rfl,K,GFram.refl _ _⟩
 case round=>
  obtain⟨i,a,hi,rfl,B,f,d,u⟩:=hrel;cases i with
  |zero=>
   have HD:Hid (yo W b k (m.send (kP n size)) w (.tuple #[]) (.returned (.tuple #[])) wr):=by
    refine⟨rfl,?_,u.out⟩;rw[<-B.out];show VMAt W b k {a with out:=a.out++[]} wr;rw[List.append_nil];exact d.out
   go_wp2;go_end0
   exact HD.out
  |succ j=>
   have I:((j+1:Nat):Int)-1=(j:Int):=by omega
   rw[I];have P:(0:Int)<=(j:Int):=by omega
   have G:=xE (8*(j:Int)) (by omega) (by omega)
   have s:0<=((n/2^(8*j)%256:Nat):Int)/\((n/2^(8*j)%256:Nat):Int)<256:=by omega
   have D:=J.out j (by omega)
   have g:=hid (O.out a wr _ d.out s (by have:=f.out;have:=F.out;omega))
   have t:((n/2^(8*j)%256:Nat):Int)=(n:Int)/2^(8*j)%256:=by simp
   have r:Hid ((a.send [((n/2^(8*j)%256:Nat):Int)]).send (kP n j)=m.send (kP n size)):=by
    show _=_;rw[ziB,<-B.out];rfl
   have c:Hid ((a.send [((n/2^(8*j)%256:Nat):Int)]).out.length+j=m.out.length+size):=by
    have:=f.out;show(a.out++[_]).length+j=_;rw[zor];simp only[List.length_cons,List.length_nil];omega
   rw[t]at g r c;have N:=hid t;clear s t B f d;go_wp2_with fail
   refine g.out.mono ?_;rintro e H ⟨rfl,l,o⟩;have A:=hid l;have C:Hid (GFram b w H):=u.out.trans ((GFram.below (ze (zof _ _))).trans o);have M:=xE ((j:Int)-1) (by omega) (by omega)
   clear l o g u N D;go_wp2;go_roundw
   case rel=>exact⟨j,_,by omega,by go_num,r,c,A,C⟩
   case measure=>simp[intOf]
theorem Has.back{k:IntKind}{w:World}{ad:Addr}{len:Nat}{zs:List Int}(h:Has k w (Option.some ad) len zs)(f:Nat)(hf:f<=len):Has k w (Option.some (ad.add f)) (len-f) (zs.drop f):=by
 refine⟨by rw[List.length_drop,h.1],fun x c=>h.2.1 x (List.mem_of_mem_drop c),?_⟩
 by_cases h0:f=len
 ·exact .inl (List.drop_eq_nil_of_le (by rw[h.1];omega))
 ·obtain⟨b,off,e,a,d⟩:=h.some (by omega)
  simp only[zoo]at e;subst e;refine .inr ⟨b,off+f,by rw[Addr.add_lit],a,fun i hi=>?_⟩
  rw[show off+f+i=off+(f+i)by omega,d (f+i) (by omega)]
  simp only[zoi,List.getElem?_drop]
theorem znQ{W:World}{b:Nat}{k:VMK}{m:VMD}{w:World}(h:VMAt W b k m w)(G:Has .u8 W k.pk.a k.pk.n k.zs)(d:k.pk.nil0)(A:k.pk.n<=600)(E:k.pk.n<=k.pk.c)(f:Nat)(hf:f<18446744073709551616)(hs:m.out.length<=90000000):
 Calls Tryz.prog 95 #[kQ b,.int .u64 (f:Int)] w (yo W b k (if f<=k.pk.n then m.send (k.zs.drop f)else m) w (.int .i64 (if f<=k.pk.n then 0 else 16))):=by
 have o:=hid (zkK h A f 0 hf);have g:=G.step h.bel;by_cases j:f<=k.pk.n
 ·have x:jy k.pk.n f 0=true:=by unfold jy;simp[j]
  rw[x]at o;rw[if_pos j,if_pos j];have L:=h.c2;have J:=h.lt;have D:=g.1;have t:=hid h;obtain⟨⟨a,n,c⟩,hpk⟩:∃q,q=k.pk:=⟨_,rfl⟩;have u:=hid hpk;rw[<-hpk]at L g d A E j;clear hpk h G x;dsimp only at*;have K:(f:Int)<=(n:Int):=by omega
  have r:∀(C:World),yo W b k (m.send (k.zs.drop f)) w (.tuple #[]) (.returned (.tuple #[])) C->yo W b k (m.send (k.zs.drop f)) w (.int .i64 0) (.returned (.int .i64 0)) C:=fun _ h=>⟨rfl,h.2⟩
  have i:=hid r;cases a with
  |none=>
   obtain⟨rfl,rfl⟩:=d rfl;obtain rfl:f=0:=by omega
   have s:=hid (zhg t.out 0 g (fun _=>⟨rfl,rfl⟩) (by omega))
   rw[List.drop_zero]at i ⊢;clear r g d hs E A t u;go_enter Tryz.func95,Tryz.ntmps95
   go_wp2_with fail
   refine o.out.mono ?_;rintro e F ⟨rfl,rfl⟩;clear o;go_wp2_with fail
   refine s.out.mono ?_;rintro e C ⟨rfl,hd⟩;have HD:=hid (i.out _ ⟨rfl,hd⟩);clear i hd s;go_wp2;go_ret;exact HD.out
  |some ad=>
   by_cases I:c=f
   ·have x:k.zs.drop f=[]:=List.drop_eq_nil_of_le (by rw[g.1];omega)
    rw[x]at i ⊢;have B:n-f=0:=by omega
    have y:c-f=0:=by omega
    have s:=hid (zhg t.out (ad:=some ad) (n:=0) 0 (l:=[]) ⟨rfl,by simp,.inl rfl⟩ (fun h=>by cases h) (by omega))
    subst I;have H:=hid B;clear r g d hs E A t u x B D;go_enter Tryz.func95,Tryz.ntmps95
    go_wp2_with fail
    refine o.out.mono ?_;rintro e F ⟨rfl,rfl⟩;clear o;go_wp2_with fail
    rw[H.out];first|refine s.out.mono ?_|(rw[y];refine s.out.mono ?_)
    rintro e C ⟨rfl,hd⟩;have HD:=hid (i.out _ ⟨rfl,hd⟩);clear i hd s;go_wp2;go_ret;exact HD.out
   ·have s:=hid (zhg t.out (c-f) (g.back f j) (fun h=>by cases h) (by omega))
    clear r g d hs E A t u D;go_enter Tryz.func95,Tryz.ntmps95
    go_wp2_with fail
    refine o.out.mono ?_;rintro e F ⟨rfl,rfl⟩;clear o;go_wp2_with fail
    refine s.out.mono ?_;rintro e C ⟨rfl,hd⟩;have HD:=hid (i.out _ ⟨rfl,hd⟩);clear i hd s;go_wp2;go_ret;exact HD.out
 ·have x:jy k.pk.n f 0=false:=by unfold jy;simp[j]
  rw[x]at o;rw[if_neg j,if_neg j];have t:=hid h;clear h g G d;go_enter Tryz.func95,Tryz.ntmps95
  go_wp2_with fail
  refine o.out.mono ?_;rintro e F ⟨rfl,rfl⟩;go_wp2;go_ret;exact⟨rfl,t.out,GFram.refl _ _⟩
def zaO(l:List Int):Nat:=l.foldl (fun a x=>a*256+x.toNat) 0
theorem ziv(l:List Int)(x:Int):zaO (l++[x])=zaO l*256+x.toNat:=by simp[zaO,List.foldl_append]
theorem zfm:∀(l:List Int) (a n:Nat),zdZ l->a<256^n->l.foldl (fun a x=>a*256+x.toNat) a<256^(n+l.length)
 |[],a,n,_,ha=>by simpa using ha
 |x::l,a,n,h,ha=>by
  have h2:=h x (by simp)
  have:=zfm l (a*256+x.toNat) (n+1) (fun y b=>h y (by simp[b])) (by rw[Nat.pow_succ];omega)
  rw[List.foldl_cons,List.length_cons,show n+(l.length+1)=n+1+l.length by omega]
  exact this
theorem zhd(l:List Int)(h:zdZ l):zaO l<256^l.length:=by
 have:=zfm l 0 0 h (by decide)
 rwa[zoK]at this
theorem zlW(a x:Nat)(ha:a<72057594037927936)(c:x<256):bits .or .u64 ((a:Int)*256) (x:Int)=((a*256+x:Nat):Int):=by
 have e:(a:Int)*256=((a*256:Nat):Int):=by omega
 rw[e,u64_or_nat _ _ (by omega) (by omega)]
 have:=Nat.two_pow_add_eq_or_of_lt (i:=8) (b:=x) (by omega) a
 have h2:(2:Nat)^8*a=a*256:=by omega
 rw[h2]at this;rw[this]
def yO(k:VMK)(f K:Nat):List Int:=(k.zs.drop f).take K
theorem znN{W:World}{b:Nat}{k:VMK}{m:VMD}{w:World}(h:VMAt W b k m w)(hk:Has .u8 W k.pk.a k.pk.n k.zs)(hp:k.pk.n<=600)(hc:k.pk.n<=k.pk.c)(x:InsD)(hr:0<=x.r/\x.r<10)(hs:0<=x.s/\x.s<10)(hn:0<=x.n/\x.n<=600)(c4:1<=x.k/\x.k<=8):
 Calls Tryz.prog 91 #[kQ b,x.v] w (yo W b k (if jy k.pk.n (m.rn x.s.toNat) (x.n.toNat+x.k.toNat)=true then m.setR x.r.toNat (zaO (yO k (m.rn x.s.toNat+x.n.toNat) x.k.toNat))else m) w (.int .i64 (if jy k.pk.n (m.rn x.s.toNat) (x.n.toNat+x.k.toNat)=true then 0 else 16))):=by
 obtain⟨op,r,s,d,tt,n⟩:=x;dsimp only at hr hs hn c4;obtain⟨r,rfl⟩:∃i:Nat,r=i:=⟨r.toNat,by omega⟩
 obtain⟨s,rfl⟩:∃i:Nat,s=i:=⟨s.toNat,by omega⟩
 obtain⟨n,rfl⟩:∃i:Nat,n=i:=⟨n.toNat,by omega⟩
 obtain⟨d,rfl⟩:∃i:Nat,d=i:=⟨d.toNat,by omega⟩
 dsimp only;rw[zov,zov,zov,zov];obtain⟨I,hW1⟩:∃I,I=w.alloc (.cells #[.int .i64 op,.int .i64 (r:Int),.int .i64 (s:Int),.int .i64 (d:Int),.int .i64 tt,.int .u64 (n:Int)] 126):=⟨_,rfl⟩;obtain⟨ib,hib⟩:∃b,b=w.heap.size:=⟨_,rfl⟩;have b1:Below w.heap.size w I:=by rw[hW1];exact ze (zof _ _)
 have IB:IBox ⟨op,r,s,d,tt,n⟩ I ib:=by rw[hW1,hib];exact ji ⟨op,r,s,d,tt,n⟩ w
 have H:=h.step b1;have HR:Hid (∀p:zq I,Calls Tryz.prog 94 #[kQ b,.int .i64 (s:Int)] p.to fun e M=>e=.returned (.int .u64 (m.rn s:Int))/\M=p.to):=fun p=>zgk (H.step p.h) (by omega)
 have d4:=xF (d:Int) (by omega) (by omega)
 have a0:IntKind.u64.wrap ((n:Int)+(d:Int))=((n+d:Nat):Int):=by rw[xF _ (by omega) (by omega)];omega
 have a3:=h.ok.1 s;have P:Hid (∀w',Below I.heap.size I w'->Calls Tryz.prog 96 #[kQ b,.int .u64 (m.rn s:Int),.int .u64 ((n+d:Nat):Int)] w' fun e M=>e=.returned (.bool (jy k.pk.n (m.rn s) (n+d)))/\M=w'):=fun w' hb=>zkK (H.step hb) hp _ _ a3
 have N:=hid (hk.step H.bel);have b4:=hid hk.1;have C:Hid (zdZ k.zs):=fun x hx=>by
  have:=bounds_u8 (hk.2.1 x hx);omega
 have T:=hid H;have HB:=hid b1;have J:=hid IB;have EW:=hid hW1;have EB:=hid hib;obtain⟨i0,i1,i2,i3,i4,Z⟩:=IB;dsimp only at i0 i1 i2 i3 i4 Z;have a2:=zm i2;have Y:=zm i3;have b0:ib<I.heap.size:=zog _ _ i0;dsimp only[InsD.v];generalize hf:m.rn s=f at*;obtain⟨nk,B⟩:∃q,q=n+d:=⟨_,rfl⟩;rw[<-B]at a0 P ⊢;have R:=hid B;clear h H b1 hW1 hib hk hf i0 i1 i4 B;haveI inhB:∀w:World,Inhabited (zq w):=fun w=>⟨⟨w,zof _ _⟩⟩
 cases hR:jy k.pk.n f nk with
 |false=>
  rw[hR]at P;rw[if_neg (by decide),if_neg (by decide)]
  go_enter Tryz.func91,Tryz.ntmps91
  go_upto_region 1 with fail
  rw[<-EW.out,<-EB.out];clear EW EB;go_wp2_with fail
  refine zi (by kernel_rfl) (by kernel_rfl) ?_
  repeat (go_big_quiet_step (first|(go_at_call 94;with_reducible exact zt _ (HR.out _))))
  refine wpQuiet_nil ?_;intro wq K;obtain⟨⟨_,j⟩,t⟩:=K;subst t;have G:=za Z j;have X:ib<wq.heap.size:=zog _ _ G;have D:=hid (P.out _ j);have HD:Hid (yo W b k m w (.int .i64 16) (.returned (.int .i64 16)) wq):=⟨rfl,T.out.step j,GFram.below (zh HB.out j)⟩;clear HB j HR a2 Y Z T N J;go_wp2_with fail
  refine D.out.mono ?_;rintro e w3 ⟨rfl,rfl⟩;go_wp2;go_ret;exact HD.out
 |true=>
  rw[hR]at P;rw[if_pos rfl,if_pos rfl];have l:f<=k.pk.n/\nk<=k.pk.n-f:=by
   unfold jy at hR;simpa using hR
  have B:=R.out;obtain⟨u,hu⟩:∃u,u=f+n:=⟨_,rfl⟩;obtain⟨v,hv⟩:∃v,v=u+d:=⟨_,rfl⟩;have a5:IntKind.u64.wrap ((f:Int)+(n:Int))=(u:Int):=by rw[xF _ (by omega) (by omega)];omega
  have c0:IntKind.u64.wrap ((u:Int)+(d:Int))=(v:Int):=by rw[xF _ (by omega) (by omega)];omega
  obtain⟨g,off,ea,c9,F⟩:=N.out.some (by omega)
  obtain⟨⟨pa,pn,pc⟩,hpk⟩:∃q,q=k.pk:=⟨_,rfl⟩;have a8:=hid hpk;have E:=T.out.c2;rw[<-hpk]at ea F l hc hp E;dsimp only at ea F l hc hp E;subst ea;have a1:v<=pn:=by omega
  have b5:(u:Int)<=(v:Int):=by omega
  have a4:(v:Int)<=(pc:Int):=by omega
  have b8:¬pc=u:=by omega
  have Q:v-u=d:=by omega
  rw[<-hu];have S:=hid F;have HU:=hid hu;have a7:=hid hv;have b9:=hid l;have HC:=hid hc;have a6:=hid Q;have c3:=hid a1;clear hu hv l hc Q B a1 F;go_enter Tryz.func91,Tryz.ntmps91
  go_upto_region 1 with fail
  rw[<-EW.out,<-EB.out];clear EW EB;go_wp2_with fail
  refine zi (by kernel_rfl) (by kernel_rfl) ?_
  repeat (go_big_quiet_step (first|(go_at_call 94;with_reducible exact zt _ (HR.out _))))
  refine wpQuiet_nil ?_;intro wq K;obtain⟨⟨_,j⟩,t⟩:=K;subst t;have G:=za Z j;have X:ib<wq.heap.size:=zog _ _ G;have b2:=za E j;have d3:b<wq.heap.size:=zog _ _ b2;have D:=hid (P.out _ j);have HQ:=hid j;clear j HR P a2 Y Z N hR i2 i3 b0 E;go_wp2_with fail
  refine D.out.mono ?_;rintro e w3 ⟨rfl,rfl⟩;clear D;go_wp2;rw[a6.out];clear G a0 a5 c0 b5 a4 b8;have HL:Hid (∀i,i<d->∃x:Nat,x<256/\w3.cell? ⟨g,off+u+i,none⟩=some (.int .u8 (x:Int))/\zaO ((yO k u d).take (i+1))=zaO ((yO k u d).take i)*256+x/\zaO ((yO k u d).take i)<72057594037927936):=by
   intro i hi;have e1:=HU.out;have e2:=a7.out;have e3:=c3.out;have e4:=R.out;have d2:k.zs.length=pn:=by
    have:=b4.out;rw[<-a8.out]at this;exact this
   have O:u+i<k.zs.length:=by omega
   have c8:=C.out k.zs[u+i] (List.getElem_mem O);have a9:k.zs.getD (u+i) 0=k.zs[u+i]:=by simp[zoi,zoh O]
   have ht:(yO k u d).take (i+1)=(yO k u d).take i++[k.zs[u+i]]:=by
    unfold yO;rw[List.take_take,List.take_take,Nat.min_eq_left (by omega),Nat.min_eq_left (by omega),zoI,List.getElem?_drop,zoh O]
    rfl
   refine⟨k.zs[u+i].toNat,by omega,?_,by rw[ht,ziv],?_⟩
   ·have:=za (S.out (u+i) (by omega)) HQ.out
    rw[a9]at this;rw[show off+u+i=off+(u+i)by omega,this]
    congr 2
    omega
   ·have H:=zhd ((yO k u d).take i) (fun y hy=>C.out y (List.mem_of_mem_drop (List.mem_of_mem_take (List.mem_of_mem_take hy))))
    have h2:((yO k u d).take i).length<=7:=by rw[List.length_take];omega
    exact zom H (Nat.pow_le_pow_right (by decide) h2)
  go_loopw [39,7,9] (fun q nv _ wr=>∃i:Nat,i<=d/\q=.int .i64 i/\nv=.int .u64 (zaO ((yO k u d).take i):Int)/\wr=w3) (fun q _ _ _=>d-(intOf q).toNat)
  case atStart=>exact⟨0,zon _,rfl,rfl,rfl⟩
  case round=>
   obtain⟨i,hi,rfl,rfl,rfl⟩:=hrel;by_cases b7:i<d
   ·have b6:(i:Int)<(d:Int):=by omega
    obtain⟨x,hx,cx,ev,hv⟩:=HL.out i b7;have d1:g<wr.heap.size:=zog _ _ cx;have EV:=hid ev;clear ev;generalize zaO ((yO k u d).take i)=A at*;go_wp2;go_roundw
    case rel=>exact⟨i+1,by omega,by go_num,by rw[EV.out];exact zhs (zlW A x hv hx),trivial⟩
    case measure=>simp[intOf];omega
   ·have b6:¬(i:Int)<(d:Int):=by omega
    obtain rfl:i=d:=by omega
    have eL:(yO k u i).take i=yO k u i:=List.take_of_length_le (by unfold yO;rw[List.length_take];omega)
    rw[eL];have U:zaO (yO k u i)<18446744073709551616:=by
     have H:=zhd (yO k u i) (fun y hy=>C.out y (List.mem_of_mem_drop (List.mem_of_mem_take hy)))
     have h2:(yO k u i).length<=8:=by unfold yO;rw[List.length_take];omega
     exact zom H (Nat.pow_le_pow_right (by decide) h2)
    have L:=T.out.step HQ.out;have HD:Hid (∀o,yo W b k (m.setR r (zaO (yO k u i))) w (.int .i64 0) (.returned (.int .i64 0)) (((wr.setCell ⟨b,r*2,none⟩ (.int .u64 (zaO (yO k u i):Int))).setCell ⟨b,r*2+1,none⟩ (.bool true)).alloc o).drew):=fun o=>⟨rfl,(L.putR (by omega) U).step (ze (zof _ _)).drew,(GFram.below (zh HB.out HQ.out)).trans (((GFram.put _ _).trans (GFram.put _ _)).trans (GFram.below (ze (zof _ _)).drew))⟩
    have r0:=L.rn r (by omega)
    have r1:=L.rs r (by omega)
    have z0:=L.fz (r*2);have z1:=L.fz (r*2+1);have c6:=L.lt;have j1:=(J.out.step HQ.out).c1;dsimp only at j1;have c5:ib<wr.heap.size:=zog _ _ j1;have d0:(r:Int)<10:=by omega
    have b3:=hid (fun n w=>zhh n w)
    generalize zaO (yO k u i)=V at*;clear HL L T HQ U J S C;go_wp2_with fail
    go_region_with (go_at_call 89;refine(b3.out _ _).mono ?_;rintro e wx ⟨rfl,rfl⟩)
    all_goals
     go_wp2;go_ret;exact HD.out _
def str(zs:List Int):ByteArray:=⟨(zs.map fun n=>UInt8.ofNat n.toNat).toArray⟩
theorem zcW{w:World}{a:Option Addr}{len:Nat}{zs:List Int}(cap:Nat)(h:Has .u8 w a len zs):(convert 48 9 (.slice a len cap)).run Tryz.prog w=.ok (.string (str zs)) w:=by
 have hb:=h.bytes;rcases h.2.2 with h0|⟨b,off,rfl,f,g⟩
 ·subst h0;have c:len=0:=by have:=h.1;simpa using this.symm
  subst c;rw[run_convert_bytes_string w 48 9 5 a 0 cap Tryz.underlying48 Tryz.underlying5 Tryz.underlying9];cases a
  ·rfl
  ·rfl
 ·have c:=h.1;have e:len=(zs.map fun n=>UInt8.ofNat n.toNat).length:=by simp[c]
  conv=>lhs;rw[e]
  rw[run_convert_bytes_back w 48 9 5 ⟨b,off,none⟩ cap (zs.map fun n=>UInt8.ofNat n.toNat) Tryz.underlying48 Tryz.underlying5 Tryz.underlying9]
  ·rfl
  ·intro j d;simp only[zoE]at d;rw[Addr.add_lit,g j (by omega)]
   have:=hb j;simp only[zoi,zoh d,zoC]at this ⊢;simp only[List.getElem_map];congr 2
   simp only[UInt8.toNat_ofNat'];omega
theorem zgf{w:World}{a b:Option Addr}{len:Nat}{zs:List Int}(c d:Nat)(ha:Has .u8 w a len zs)(hb:Has .u8 w b len zs):
 Calls Tryz.prog 27 #[.slice a len c,.slice b len d] w fun e w'=>e=.returned (.bool true)/\w'=w:=by
 have f:=zcW c ha;have g:=zcW d hb;clear ha hb;go_enter Tryz.func27,Tryz.ntmps27
 go_wp2;go_ret;exact⟨rfl,rfl⟩
end Go.Proofs.YtdajaaondlekfaaGreat
