import Derived.OrdersHeld
import Derived.StillTail
import Derived.Deep.RegionHeld3
import Derived.Test.YtbmcgbmegcpgnaaGreatG1
import Derived.Laws.ShiftsVarLaws
import Derived.Test.YtbmcgbmegcpgnaaGreatVQPure
import Derived.Test.YtbmcgbmegcpgnaaGreatVQFirst
import Derived.Test.YtbmcgbmegcpgnaaGreatG3
import Derived.Test.YtbmcgbmegcpgnaaGreatVQPart
import Derived.Laws.EntriesVeiled
import Derived.Test.YtbmcgbmegcpgnaaGreatVBase
set_option maxHeartbeats 8000000
set_option maxRecDepth 20000
set_option linter.unusedSimpArgs false
namespace Go.Proofs.YtbmcgbmegcpgnaaGreat
open Go
def zbv(K:Act->World->Prop)(Q:Exit->Act->World->Prop):Exit->Act->World->Prop
 |.normal,a,w=>K a w
 |.exit i,a,w=>Q (.exit i) a w
 |.goto l,a,w=>Q (.goto l) a w
 |.ret,a,w=>Q .ret a w
 |.panic c,a,w=>Q (.panic c) a w
 |.outgrown,a,w=>Q .outgrown a w
theorem zk6{P:Program}{o:Oper}{a:Act}{K f d:Act->World->Prop}{Q:Exit->Act->World->Prop}{r:Result Next}(c:∀a w,f a w->d a w)(h:o.upon P a f (zbv K Q) r):o.upon P a d Q r:=by
 cases r with
 |ok n w'=>
  cases n<;>simp only[Oper.upon]at h ⊢<;>
   first
    |exact c _ _ h
    |exact Calls.mono h (fun e g b=>by cases e<;>first|exact c _ _ b|exact b)
    |exact Rows.mono h (fun _ _ b=>c _ _ b)
 |halt x w'=>cases x<;>simp only[Oper.upon]at h ⊢<;>exact h
theorem zk7{P:Program}{ops:Array Oper}{i:Nat}{a:Act}{w:World}{K d c:Act->World->Prop}{Q:Exit->Act->World->Prop}(b:∀a w,d a w->c a w)(h:wpOp P ops (zbv K Q) i d a w):wpOp P ops Q i c a w:=by
 unfold wpOp at*;split
 ·exact b _ _ (by simpa[*]using h)
 ·rename_i o ho
  simp only[ho]at h;split
  ·rename_i hw
   simp only[hw,if_true]at h;exact h.imp (fun h=>zk6 b h) id
  ·rename_i hw
   simp only[hw]at h;exact b _ _ h
structure CutRel (n m : Nat) (hl listed : Array Bool) : Prop where
 s1 : hl.size = m
 s2 : listed.size = m
 head : ∀ i, i < n -> hl[i]? = listed[i]?
 tl : ∀ t, n <= t -> t < m -> hl[t]? = some true /\ listed[t]? = some false
theorem CutRel.set{n m:Nat}{b a:Array Bool}(h:CutRel n m b a){i:Nat}(hi:i<n):CutRel n m (b.setIfInBounds i true) (a.setIfInBounds i true):=by
 refine⟨by simp[h.s1],by simp[h.s2],fun j d=>?_,fun t c f=>?_⟩
 ·by_cases e:i=j
  ·subst e;have:=h.head i hi;rw[Array.getElem?_setIfInBounds_self,Array.getElem?_setIfInBounds_self,h.s1,h.s2]
  ·rw[Array.getElem?_setIfInBounds_ne e,Array.getElem?_setIfInBounds_ne e];exact h.head j d
 ·rw[Array.getElem?_setIfInBounds_ne (by omega),Array.getElem?_setIfInBounds_ne (by omega)]
  exact h.tl t c f
def Region.backB(md:Region.Mode)(ops:Array Oper)(n:Nat):Bool:=
 (List.range n).all fun i=>match ops[i]? with
  |some o=>o.after.all fun e=>!Region.binds md e||decide (e.on<i)
  |none=>false
def Region.waitB(md:Region.Mode)(ops:Array Oper)(n:Nat):Bool:=
 (List.range ops.size).all fun t=>decide (t<n)||(List.range n).all fun i=>Region.waitsFor md ops t i
theorem zdO(p:Nat->Bool):∀n,(∃j,j<n/\p j=false)->∃j,j<n/\p j=false/\∀i,i<j->p i=true
 |0,⟨j,hj,_⟩=>by omega
 |n+1,⟨j,hj,hp⟩=>by
  by_cases h:∃i,i<n/\p i=false
  ·obtain⟨i,f,d,c⟩:=zdO p n h;exact⟨i,by omega,d,c⟩
  ·have a:j=n:=by
    by_cases e:j<n
    ·exact absurd ⟨j,e,hp⟩ h
    ·omega
   subst a;refine⟨j,hj,hp,fun i hi=>?_⟩
   cases b:p i with
   |true=>rfl
   |false=>exact absurd ⟨i,hi,b⟩ h
theorem ziT{P:Program}{md:Region.Mode}{ops:Array Oper}{Q:Exit->Act->World->Prop}{K:Act->World->Prop}{n g:Nat}{E:Array Bool}(hn:n<=ops.size)(y:Region.backB md ops n=true)(x:Region.waitB md ops n=true)
 (U:E.size=ops.size/\(∀i,i<n->E[i]?=some true)/\∀t,n<=t->t<ops.size->E[t]?=some false) (hK:∀a w,K a w->wpAny P md ops Q g E a w):
 ∀(f:Nat) (k b:Array Bool) (a:Act) (w:World),CutRel n ops.size k b->k.toList.count false=f->wpAny P md ops (zbv K Q) f k a w->wpAny P md ops Q (f+g) b a w:=by
 intro f;induction f with
 |zero=>
  intro k b a w c L h;have l:∀i,i<ops.size->k[i]?=some true:=fun i hi=>by
   have X:false ∉ k.toList:=List.count_eq_zero.1 L;have I:i<k.size:=by rw[c.s1];exact hi
   rw[Array.getElem?_eq_getElem I];cases hx:k[i]with
   |true=>rfl
   |false=>exact absurd (by rw[<-hx];exact Array.getElem_mem_toList I) X
  have e:b=E:=by
   refine Array.ext (by rw[c.s2,U.1]) fun i d u=>?_
   have hi:i<ops.size:=by rw[<-c.s2];exact d
   have:b[i]?=E[i]?:=by
    by_cases m:i<n
    ·rw[<-c.head i m,l i hi,U.2.1 i m]
    ·rw[(c.tl i (by omega) hi).2,U.2.2 i (by omega) hi]
   rw[Array.getElem?_eq_getElem d,Array.getElem?_eq_getElem u]at this;exact Option.some.inj this
  subst e;rw[Nat.zero_add];exact hK a w h.2
 |succ f ih=>
  intro k b a w c L h;rw[show f+1+g=(f+g)+1 by omega]
  have D:∃j,j<n/\b.getD j true=false:=by
   have hm:false∈k.toList:=List.count_pos_iff.1 (by omega)
   obtain⟨j,C,e⟩:=List.getElem_of_mem hm;have G:j<k.size:=by simpa using C
   have s:j<ops.size:=by rw[<-c.s1];exact G
   have e':k[j]?=some false:=by rw[Array.getElem?_eq_getElem G];simpa using e
   by_cases H:j<n
   ·refine⟨j,H,?_⟩;have:=c.head j H;rw[e']at this;rw[Array.getD_eq_getD_getElem?,<-this];rfl
   ·have:=(c.tl j (by omega) s).1
    rw[e']at this;cases this
  refine⟨fun X=>?_,fun i hi=>?_⟩
  ·exfalso
   obtain⟨j,C,A,M⟩:=zdO (fun j=>b.getD j true) n D
   have s:j<ops.size:=by omega
   have hb:=List.all_eq_true.1 y j (List.mem_range.2 C);rw[Array.getElem?_eq_getElem s]at hb;have:j∈Region.ready md ops b:=mem_ready.2 ⟨A,ops[j],Array.getElem?_eq_getElem s,fun e T O=>by
    have d:=Array.all_eq_true'.1 hb e T;rw[O]at d;have u:e.on<j:=by simpa using d
    have J:=M _ u;have B:e.on<b.size:=by rw[c.s2];omega
    rw[Array.getD_eq_getD_getElem?,Array.getElem?_eq_getElem B]at J ⊢;exact J⟩
   rw[X]at this;cases this
  ·obtain⟨q,o,V,l⟩:=mem_ready.1 hi;have r:i<ops.size:=(Array.getElem?_eq_some_iff.1 V).1;have m:i<n:=by
    by_cases e:i<n
    ·exact e
    ·exfalso
     have d:=List.all_eq_true.1 x i (List.mem_range.2 r);obtain⟨j,C,A⟩:=D;simp only[Bool.or_eq_true,decide_eq_true_eq]at d;rcases d with d|d
     ·exact e d
     ·obtain⟨oj,Z,ed,N,R,Y⟩:=Region.waitsFor_spec (List.all_eq_true.1 d j (List.mem_range.2 C));have:oj=o:=Option.some.inj (Z.symm.trans V);subst this;have u:=l ed N R;rw[Y,getD_both A]at u;cases u
   have F:i∈Region.ready md ops k:=mem_ready.2 ⟨by
    have:=c.head i m;rw[Array.getD_eq_getD_getElem?]at q ⊢;rw[this];exact q,o,V,fun e T hb=>by
    have d:=l e T hb;have u:e.on<n:=by
     by_cases J:e.on<n
     ·exact J
     ·exfalso
      by_cases B:e.on<ops.size
      ·have:=(c.tl e.on (by omega) B).2
       rw[Array.getD_eq_getD_getElem?,this]at d;cases d
      ·rw[Array.getD_eq_getD_getElem?,Array.getElem?_eq_none (by rw[c.s2];omega)]at d
       cases d
    have:=c.head e.on u;rw[Array.getD_eq_getD_getElem?]at d ⊢;rw[this];exact d⟩
   refine zk7 (fun a' w' h'=>ih (k.setIfInBounds i true) (b.setIfInBounds i true) a' w' (c.set m) ?_ h') (h.2 i F)
   have W:i<k.toList.length:=by rw[Array.length_toList,c.s1];exact r
   have S:k.toList[i]=false:=by
    have:=c.head i m;have B:i<b.size:=by rw[c.s2];exact r
    rw[Array.getD_eq_getD_getElem?,Array.getElem?_eq_getElem B]at q;rw[Array.getElem?_eq_getElem B]at this;have h5:i<k.size:=by rw[c.s1];exact r
    rw[Array.getElem?_eq_getElem h5]at this;simp only[Option.some.injEq,Option.getD_some]at this q;rw[Array.getElem_toList,this];exact q
   rw[Array.toList_setIfInBounds,List.count_set W,S,L];simp
theorem jL{l rest:List Oper}{i:Nat}{o:Oper}(h:l.drop i=o::rest):l.toArray[i]?=some o:=by
 have:(l.drop i)[0]?=some o:=by rw[h];rfl
 rw[List.getElem?_drop,Nat.add_zero]at this;rw[List.getElem?_toArray,this]
theorem zfy{x y:Bool}{n m i:Nat}(h:i<n):(List.replicate n x++List.replicate m y).toArray[i]?=some x:=by
 rw[List.getElem?_toArray,List.getElem?_append_left (by simpa using h),List.getElem?_replicate,if_pos h]
theorem zdP{x y:Bool}{n m t:Nat}(h:n<=t)(a:t<n+m):(List.replicate n x++List.replicate m y).toArray[t]?=some y:=by
 rw[List.getElem?_toArray,List.getElem?_append_right (by simpa using h),List.length_replicate,List.getElem?_replicate,if_pos (by omega)]
theorem zho{m i:Nat}(h:i<m):(Array.replicate m false)[i]?=some false:=by
 rw[Array.getElem?_replicate,if_pos h]
def Region.cutB(l:List Oper)(n:Nat):Bool:=
 decide (n<=l.toArray.size)&&Region.backB .any l.toArray n&&Region.waitB .any l.toArray n&&Region.seqB .any l.toArray (l.drop n).length n (List.replicate n true++List.replicate (l.length-n) false).toArray
theorem zde{P:Program}{q:Nat}{Q:Exit->Act->World->Prop}{a:Act}{w:World}{l:List Oper}(n:Nat)(c:P.follows .mixedOrders=true)(f:Region.cutB l n=true)
 (h:wpAny P .any l.toArray (zbv (fun a w=>wpList P l.toArray Q (l.drop n) a w) Q) n (List.replicate n false++List.replicate (l.length-n) true).toArray a w.drew):(Code.region q l.toArray true).wp P Q a w:=by
 simp only[Region.cutB,Bool.and_eq_true,decide_eq_true_eq]at f;obtain⟨⟨⟨k,r⟩,m⟩,u⟩:=f;have o:n<=l.length:=by simpa using k
 refine wp_region_any c ?_;have hs:l.toArray.size=n+(l.length-n):=by simp;omega
 have b:=ziT (P:=P) (md:=.any) (ops:=l.toArray) (Q:=Q) (K:=fun a w=>wpList P l.toArray Q (l.drop n) a w) (n:=n) (g:=(l.drop n).length) (E:=(List.replicate n true++List.replicate (l.length-n) false).toArray) k r m
  ⟨by simp;omega,fun i hi=>zfy hi,fun t d c=>zdP d (by omega)⟩
  (fun a w s=>wpAny_of_seq (l.drop n) n _ a w (fun j=>by simp) u s)
  n (List.replicate n false++List.replicate (l.length-n) true).toArray (Array.replicate l.toArray.size false) a w.drew
  ⟨by simp;omega,by simp,fun i hi=>by rw[zfy hi,zho (by omega)],fun t d c=>⟨zdP d (by omega),zho c⟩⟩
  (by simp[List.count_append,List.count_replicate]) h
 rw[hs];rw[hs]at b;have e:(l.drop n).length=l.length-n:=by simp
 rw[e]at b;exact b
end Go.Proofs.YtbmcgbmegcpgnaaGreat
namespace Go.Proofs.YtbmcgbmegcpgnaaGreat
open Go.RowKit
def Mth.reg(r x j:Nat):Nat:=Mth.cstN j (r ^^^ x) ^^^ (x/2^j)
theorem ztt(a b:Nat):(a ^^^ b)/2=a/2 ^^^ b/2:=by
 have:=Nat.shiftRight_xor_distrib (a:=a) (b:=b) (i:=1);simpa[Nat.shiftRight_eq_div_pow]using this
theorem zug(a b:Nat):(a ^^^ b)%2=(a%2+b%2)%2:=by
 have h:(a ^^^ b)%2^1=a%2^1 ^^^ b%2^1:=Nat.xor_mod_two_pow;rw[Nat.pow_one]at h;rw[h];rcases(show a%2=0\/a%2=1 by omega)with x|x<;>rcases(show b%2=0\/b%2=1 by omega)with y|y<;>rw[x,y]<;>decide
theorem ztu(r x:Nat):Mth.reg r x 0=r:=by
 unfold Mth.reg Mth.cstN;rw[Nat.pow_zero,Nat.div_one,Nat.xor_assoc,Nat.xor_self,Nat.xor_zero]
theorem ztv(r x j:Nat):Mth.reg r x (j+1)=(Mth.reg r x j/2) ^^^ ((Mth.reg r x j%2+(x/2^j)%2)%2*3988292384):=by
 have e:Mth.cstN j (r ^^^ x)=Mth.reg r x j ^^^ (x/2^j):=by
  unfold Mth.reg;rw[Nat.xor_assoc,Nat.xor_self,Nat.xor_zero]
 have h:Mth.reg r x (j+1)=Mth.cst (Mth.cstN j (r ^^^ x)) ^^^ (x/2^(j+1)):=rfl;rw[h,e];unfold Mth.cst;rw[ztt,zug,Nat.div_div_eq_div_mul,<-Nat.pow_succ];generalize Mth.reg r x j/2=p;generalize x/2^(j+1)=q;generalize(Mth.reg r x j%2+x/2^j%2)%2*3988292384=z;rw[Nat.xor_assoc,Nat.xor_assoc,Nat.xor_comm q,Nat.xor_assoc,Nat.xor_self,Nat.xor_zero]
theorem zuh(r x:Nat)(a:x<256):Mth.reg r x 8=Mth.crcB r x:=by
 unfold Mth.reg Mth.crcB;rw[Nat.div_eq_of_lt (by simpa using a),Nat.xor_zero]
theorem zvd(x j:Nat)(f:x<256)(r:Nat)(c:r<4294967296):bits .xor .u32 (bits .and .u32 ((x:Int)/2^j) 1) (bits .and .u32 (r:Int) 1)=(((r%2+x/2^j%2)%2:Nat):Int):=by
 have d:x/2^j<=x:=Nat.div_le_self _ _;have e:(x:Int)/2^j=((x/2^j:Nat):Int):=by simp
 rw[e];rw[zt1 _ (by omega),zt1 r c]
 have:=u32_xor ((x/2^j%2:Nat):Int) ((r%2:Nat):Int) (by omega) (by omega) (by omega) (by omega)
 rw[this,zov,zov];rcases(show r%2=0\/r%2=1 by omega)with a|a<;>rcases(show x/2^j%2=0\/x/2^j%2=1 by omega)with b|b<;>rw[a,b]<;>decide
theorem zuQ{r x:Nat}(b:r<4294967296)(a:x<256)(j:Nat):Mth.reg r x j<4294967296:=by
 unfold Mth.reg;have d:=Mth.cstN_lt j (Mth.xor_lt32 b a);have c:x/2^j<=x:=Nat.div_le_self _ _;exact Nat.xor_lt_two_pow (n:=32) (by omega) (by omega)
theorem zuR(r:Nat)(a:r<4294967296):bits .xor .u32 ((r:Int)/2) 3988292384=((r/2 ^^^ 3988292384:Nat):Int):=by
 have:=u32_xor ((r/2:Nat):Int) 3988292384 (by omega) (by omega) (by decide) (by decide)
 rw[show(r:Int)/2=((r/2:Nat):Int)by omega,this,zov]
 rfl
theorem zsM{z:Int}(b:0<=z)(a:z<4294967296):IntKind.u32.wrap z=z:=by
 simp[IntKind.wrap_u32];omega
theorem zuS(a:Option Addr)(n c:Nat)(zs:List Int)(w:World)(P:n<=10000000)(hz:Has .u8 w a n zs):
 Calls Tryz.prog 14 #[.slice a n c] w fun e w'=>e=.returned (.int .u32 (Mth.crc zs))/\w'=w:=by
 have F:=hid hz;have u:=hid (zqH hz);have f:=hid hz.1;clear hz;go_enter Tryz.func14,Tryz.ntmps14
 go_wp2;go_loop [3,4,5,6] (fun s q _ _=>∃k:Nat,k<=n/\q=.int .i64 k/\s=.int .u32 (Mth.crcF 4294967295 (zs.take k))) (fun _ q _ _=>n-(intOf q).toNat)
 case atStart=>exact⟨0,zon _,rfl,rfl⟩
 case round=>
  obtain⟨k,O,rfl,rfl⟩:=hrel;have L:Mth.crcF 4294967295 (zs.take k)<4294967296:=Mth.crcF_lt (fun x y=>u.out x (List.mem_of_mem_take y)) (by decide)
  by_cases h:k<n
  ·have H:(k:Int)<(n:Int):=by omega
   obtain⟨b,off,rfl,_,D⟩:=F.out.some (by omega)
   have y:=D k h;have hb:=u.out (zs.getD k 0) (by rw[zoi,zoh (by rw[f.out];exact h)];exact List.getElem_mem _)
   have o:Hid (Mth.crcF 4294967295 (zs.take (k+1))=Mth.cstN 8 (Mth.crcF 4294967295 (zs.take k) ^^^ (zs.getD k 0).toNat)):=by
    show _=_;rw[zoI,zoh (show k<zs.length by rw[f.out];exact h)]
    simp only[Mth.crcF,List.foldl_append,Option.toList_some,List.foldl_cons,List.foldl_nil,Mth.crcB];rw[zoi,zoh (show k<zs.length by rw[f.out];exact h),zoC]
   generalize Mth.crcF 4294967295 (zs.take k)=S at*;simp only[zoi]at y hb o;obtain⟨x,ex⟩:∃x:Nat,zs[k]?.getD 0=(x:Int):=⟨(zs[k]?.getD 0).toNat,by omega⟩
   rw[ex]at y hb o;have i:x<256:=by omega
   clear D ex hb;go_wp2;go_loop [3,5,6] (fun s q _=>∃j:Nat,j<=8/\q=.int .i64 j/\s=.int .u32 (Mth.reg S x j)) (fun _ q _=>8-(intOf q).toNat)
   case atStart=>exact⟨0,zon _,rfl,by rw[ztu]⟩
   case round=>
    obtain⟨j,N,rfl,rfl⟩:=hrel;by_cases J:j<8
    ·have G:(j:Int)<8:=by omega
     have A:=zuQ L i j;have d:=zvd x j i _ A;have g:=hid (ztv S x j);have t:=hid (zuR (Mth.reg S x j) A);rcases(show(Mth.reg S x j%2+x/2^j%2)%2=0\/(Mth.reg S x j%2+x/2^j%2)%2=1 by omega)with l|l
     ·rw[l]at d;have C:Hid (Mth.reg S x (j+1)=Mth.reg S x j/2):=by show _=_;rw[g.out,l,Nat.zero_mul,Nat.xor_zero]
      clear g t l A;generalize Mth.reg S x j=r at*;have m:bits .xor .u32 (bits .and .u32 ((x:Int)/2^j) 1) (bits .and .u32 (r:Int) 1)=0:=d;clear d;go_wp2;go_round
      case rel=>exact⟨j+1,by omega,by go_num,by rw[C.out];simp⟩
      case measure=>simp[intOf];omega
     ·rw[l]at d;have C:Hid (Mth.reg S x (j+1)=Mth.reg S x j/2 ^^^ 3988292384):=by show _=_;rw[g.out,l,Nat.one_mul]
      clear g l A;have I:=t.out;clear t;generalize Mth.reg S x j=r at*;have m:bits .xor .u32 (bits .and .u32 ((x:Int)/2^j) 1) (bits .and .u32 (r:Int) 1)=1:=d;clear d;go_wp2;go_round
      case rel=>exact⟨j+1,by omega,by go_num,by rw[C.out]⟩
      case measure=>simp[intOf];omega
    ·have M:j=8:=by omega
     subst M;have B:Hid (Mth.reg S x 8=Mth.cstN 8 (S ^^^ x)):=zuh S x i;go_wp2;go_round
     case rel=>exact⟨k+1,by omega,by go_num,by rw[o.out,B.out];simp⟩
     case measure=>simp[intOf];omega
  ·have K:k=n:=by omega
   subst K;have B:Hid (Mth.crcF 4294967295 (zs.take k)=Mth.crcF 4294967295 zs):=by show _=_;rw[List.take_of_length_le (by rw[f.out];exact zos _)]
   generalize Mth.crcF 4294967295 (zs.take k)=S at*;have E:IntKind.u32.wrap (4294967295-(S:Int))=((4294967295-S:Nat):Int):=by
    rw[show(4294967295:Int)-(S:Int)=((4294967295-S:Nat):Int)by omega]
    exact zsM (by omega) (by omega)
   go_wp2;go_ret;exact⟨xv (by rw[B.out];rfl),rfl⟩
def yJ(ws:List Int):Int:=
 if ws.length<1\/8<ws.length then 2 else if ∀j,j<ws.length->Mth.Fit ws j then(if Mth.off ws ws.length%8=0/\Mth.off ws ws.length<=256 then 0 else 6)else 6
theorem zh5(a:Option Addr)(m c:Nat)(ws:List Int)(w:World)(hw:Has .i64 w a m ws):
 Calls Tryz.prog 84 #[HD a m c] w fun e w'=>∃x y,e=.returned (.tuple #[.int .i64 x,.agg #[.int .i64 (yJ ws),.int .i64 y]])/\Below w.heap.size w w':=by
 have o:=hw.1;by_cases r:(m:Int)<1\/8<(m:Int)
 ·have e:yJ ws=2:=by unfold yJ;rw[if_pos (by omega)]
  rw[e];exact(zit a m c w r).mono fun _ _ ⟨j,g⟩=>⟨0,-1,j,g⟩
 have n:¬(ws.length<1\/8<ws.length):=by omega
 rcases zcg (Mth.Fit ws) m with b|⟨i,hi,d,f⟩
 ·have e:yJ ws=if Mth.off ws m%8=0/\Mth.off ws m<=256 then 0 else 6:=by
   unfold yJ;rw[if_neg n,o,if_pos b]
  rw[e];refine(zcX a m c ws w (by omega) (by omega) hw b).mono fun q w' ⟨x,j,g,l⟩=>?_
  by_cases k:Mth.off ws m%8=0/\Mth.off ws m<=256
  ·rw[if_pos k];exact⟨_,_,by rw[j,g.1 k],l⟩
  ·rw[if_neg k];exact⟨_,_,by rw[j,g.2 k],l⟩
 ·have e:yJ ws=6:=by
   unfold yJ;rw[if_neg n,if_neg (fun h=>d (h i (by omega)))]
  rw[e];exact(zgg a m c i ws w (by omega) (by omega) hw hi f d).mono fun _ _ ⟨j,g⟩=>⟨0,i,j,g⟩
theorem zkd(d:PlanD)(w:World)(i:d.lie w)(k:Nat)(r:k<d.heads.n):
 Calls Tryz.prog 45 #[d.v,.int .i64 k] w fun e w'=>e=.returned (.int .i64 (yJ (d.p.hs.getD k [])))/\Below w.heap.size w w':=by
 obtain⟨g,off,x,y,m,f⟩:=zu i.hs r;rw[Nat.mul_one]at f;have j:d.p.hs.getD k []=x.ws:=by simp only[PlanD.p,zoi,zoy,m];rfl
 rw[j];have h:∀o,Below w.heap.size w (w.alloc o):=fun o=>ze (zof _ _)
 have s:∀o,(w.alloc o).cell? ⟨g,off+k,none⟩=some (.slice x.w.a x.w.n x.w.c):=fun o=>za f.1.1 (h o)
 have l:Hid (∀o,Calls Tryz.prog 84 #[.agg #[.slice x.w.a x.w.n x.w.c]] (w.alloc o) fun e w'=>∃u v,e=.returned (.tuple #[.int .i64 u,.agg #[.int .i64 (yJ x.ws),.int .i64 v]])/\Below (w.alloc o).heap.size (w.alloc o) w'):=fun o=>zh5 x.w.a x.w.n x.w.c x.ws (w.alloc o) (f.2.step (h o))
 have t:(k:Int)<(d.heads.n:Int):=by omega
 generalize yJ x.ws=C at*;clear i m f j;go_enter Tryz.func45,Tryz.ntmps45
 go_wp2_with fail
 refine(l.out _).mono ?_;rintro e A ⟨u,v,rfl,b⟩;have q:=hid (zh (h _) b);clear l b h s;go_wp2;go_ret;exact⟨rfl,ze q.out⟩
theorem zke(d:PlanD)(w:World)(c:d.lie w)(k:Nat)(j:k<d.mta.n):
 Calls Tryz.prog 46 #[d.v,.int .i64 k] w fun e w'=>e=.returned (.int .i64 (xC (d.p.ms.getD k 0)))/\Below w.heap.size w w':=by
 obtain⟨g,off,x,q,i,c0⟩:=zaL c.ms j;have f:d.p.ms.getD k 0=x:=by simp only[PlanD.p,zoi,i,zoC]
 rw[f];have b:∀o,Below w.heap.size w (w.alloc o):=fun o=>ze (zof _ _)
 have l:∀o,(w.alloc o).cell? ⟨g,off+k,none⟩=some (.int .i64 x):=fun o=>za c0 (b o)
 have h:Hid (∀w',Calls Tryz.prog 85 #[.int .i64 x] w' fun e a=>e=.returned (.int .i64 (xC x))/\a=w'):=fun w'=>zg2 x w'
 have m:(k:Int)<(d.mta.n:Int):=by omega
 generalize xC x=C at*;clear c i c0 f;go_enter Tryz.func46,Tryz.ntmps46
 go_wp2_with fail
 refine(h.out _).mono ?_;rintro e r ⟨rfl,rfl⟩;clear h l;go_wp2;go_ret;exact⟨rfl,b _⟩
def zM(d:PlanD):Nat->Nat
 |0=>d.heads.n
 |1=>d.mta.n
 |2=>d.states.n
 |3=>d.acts.n
 |4=>d.tabs.n
 |5=>d.nodes.n
 |_=>d.out.n
def zS:Nat->Int
 |2=>1
 |_=>0
def yh:Nat->Int
 |0=>6
 |1=>4
 |2=>8
 |3=>8
 |4=>5
 |5=>10
 |_=>6
def kY:Nat->Nat
 |0=>45
 |1=>46
 |2=>47
 |3=>48
 |4=>49
 |5=>50
 |_=>51
def yE(d:PlanD)(cs:Nat->Nat->Int)(k:Nat):Prop:=∃A,qB ((k:Int)+1) (zM d k) (zS k) (yh k) (cs k) 0 A
def jG(d:PlanD)(cs:Nat->Nat->Int)(C A:Int):Prop:=
 (∃k:Nat,k<7/\qB ((k:Int)+1) (zM d k) (zS k) (yh k) (cs k) C A/\C≠0/\∀j,j<k->yE d cs j)\/((∀j,j<7->yE d cs j)/\C=0/\A=0)
def zI(d:PlanD)(cs:Nat->Nat->Int)(w:World)(e:Ending)(w':World):Prop:=∃C A,jG d cs C A/\e=.returned (.agg #[.int .i64 C,.int .i64 A])/\Below w.heap.size w w'
abbrev JB(d:PlanD):Obj:=.cells #[.slice d.heads.a d.heads.n d.heads.c,.slice d.mta.a d.mta.n d.mta.c,.slice d.states.a d.states.n d.states.c,.slice d.acts.a d.acts.n d.acts.c,.slice d.tabs.a d.tabs.n d.tabs.c,.slice d.nodes.a d.nodes.n d.nodes.c,.slice d.out.a d.out.n d.out.c] 102
abbrev PCs(d:PlanD):Array Value:= #[.int .i64 (d.heads.n:Int),.int .i64 0,.int .i64 6,.func (.func 45) #[d.v] #[],.int .i64 (d.mta.n:Int),.int .i64 0,.int .i64 4,.func (.func 46) #[d.v] #[],.int .i64 (d.states.n:Int),.int .i64 1,.int .i64 8,.func (.func 47) #[d.v] #[],.int .i64 (d.acts.n:Int),.int .i64 0,.int .i64 8,.func (.func 48) #[d.v] #[],.int .i64 (d.tabs.n:Int),.int .i64 0,.int .i64 5,.func (.func 49) #[d.v] #[],.int .i64 (d.nodes.n:Int),.int .i64 0,.int .i64 10,.func (.func 50) #[d.v] #[],.int .i64 (d.out.n:Int),.int .i64 0,.int .i64 6,.func (.func 51) #[d.v] #[]]
abbrev PS(d:PlanD):Obj:=.cells (PCs d) 105
theorem zjY{d:PlanD}{w wr:World}(hb:Below (w.heap.size+4) ((((w.alloc d.box).alloc FZ).alloc (JB d)).alloc (PS d)) wr)(i:Nat):wr.cell? ⟨w.heap.size+3,i,none⟩=(PCs d)[i]?:=
 (hb.cell (p:=⟨w.heap.size+3,i,none⟩) (by simp)).trans (zod _ _ _ _ (by simp))
theorem zbG{d:PlanD}{w wr:World}(hb:Below (w.heap.size+4) ((((w.alloc d.box).alloc FZ).alloc (JB d)).alloc (PS d)) wr):
 wr.cell? ⟨w.heap.size+1,0,none⟩=some (.int .i64 0)/\wr.cell? ⟨w.heap.size+1,1,none⟩=some (.int .i64 0)/\wr.frozen? ⟨w.heap.size+1,0,none⟩=false/\wr.frozen? ⟨w.heap.size+1,1,none⟩=false/\w.heap.size+3<wr.heap.size:=
 ⟨(hb.cell (p:=⟨w.heap.size+1,0,none⟩) (by simp)).trans ((zoe _ _ _ (by simp)).trans ((zoe _ _ _ (by simp)).trans ((zod _ _ _ _ (by simp)).trans rfl))),(hb.cell (p:=⟨w.heap.size+1,1,none⟩) (by simp)).trans ((zoe _ _ _ (by simp)).trans ((zoe _ _ _ (by simp)).trans ((zod _ _ _ _ (by simp)).trans rfl))),
  (hb.frozen (p:=⟨w.heap.size+1,0,none⟩) (by simp)).trans ((World.frozen?_alloc_past _ _ _ (by simp)).trans ((World.frozen?_alloc_past _ _ _ (by simp)).trans (zoB _ _ _ _ (by simp)))),(hb.frozen (p:=⟨w.heap.size+1,1,none⟩) (by simp)).trans ((World.frozen?_alloc_past _ _ _ (by simp)).trans ((World.frozen?_alloc_past _ _ _ (by simp)).trans (zoB _ _ _ _ (by simp)))),by have:=hb.size;simp at this;omega⟩
theorem zg1{d:PlanD}{w wr:World}(hb:Below (w.heap.size+4) ((((w.alloc d.box).alloc FZ).alloc (JB d)).alloc (PS d)) wr)(x y:Value):Below w.heap.size w ((wr.setCell ⟨w.heap.size+1,0,none⟩ x).setCell ⟨w.heap.size+1,1,none⟩ y):=
 (((ze (ze (ze (ze (zof w.heap.size w))))).trans (hb.mono (by omega))).setCell (by simp) _).setCell (by simp) _
theorem qx{k:Nat}(h:k<7):k=0\/k=1\/k=2\/k=3\/k=4\/k=5\/k=6:=by omega
theorem zjZ{d:PlanD}{w wr:World}(hb:Below (w.heap.size+4) ((((w.alloc d.box).alloc FZ).alloc (JB d)).alloc (PS d)) wr){k:Nat}(a:k<7):
 wr.cell? ⟨w.heap.size+3,k*4,none⟩=some (.int .i64 (zM d k))/\wr.cell? ⟨w.heap.size+3,k*4+1,none⟩=some (.int .i64 (zS k))/\wr.cell? ⟨w.heap.size+3,k*4+2,none⟩=some (.int .i64 (yh k))/\wr.cell? ⟨w.heap.size+3,k*4+3,none⟩=some (.func (.func (kY k)) #[d.v] #[]):=by
 have h:=zjY hb;rcases qx a with rfl|rfl|rfl|rfl|rfl|rfl|rfl
 all_goals exact⟨h _,h _,h _,h _⟩
theorem zh0(d:PlanD)(cs:Nat->Nat->Int)(w:World)(G:∀k,k<7->zmx (kY k) d.v (zM d k) (cs k) w):
 Calls Tryz.prog 18 #[d.v] w (zI d cs w):=by
 have u:Hid (∀k,k<7->∀wr,Below w.heap.size w wr->Calls Tryz.prog 52 #[.agg #[.int .i64 (zM d k),.int .i64 (zS k),.int .i64 (yh k),.func (.func (kY k)) #[d.v] #[]],.int .i64 ((k:Int)+1)] wr (qf ((k:Int)+1) (zM d k) (zS k) (yh k) (cs k) wr)):=by
  intro k m wr hb;refine zkm (kY k) d.v _ (zM d k) (zS k) (yh k) (cs k) wr ?_ (by omega) ?_ (fun w' s n Q=>G k m w' (zh hb s) n Q)
  ·rcases qx m with rfl|rfl|rfl|rfl|rfl|rfl|rfl<;>simp[kY]
  ·rcases qx m with rfl|rfl|rfl|rfl|rfl|rfl|rfl<;>simp[yh]
 clear G;have N:∀(fn:Fn) (first cap:Array Value) (w:World),(Instr.makeFunc fn first cap).run Tryz.prog w=.ok (.func fn first cap) w:=fun _ _ _ _=>rfl
 go_enter Tryz.func18,Tryz.ntmps18
 go_wp2;go_loopw [55,5,6,7] (fun q _ _ _ wr=>∃k:Nat,k<=7/\q=.int .i64 k/\Hid (∀j,j<k->yE d cs j)/\Hid (Below (w.heap.size+4) ((((w.alloc d.box).alloc FZ).alloc (JB d)).alloc (PS d)) wr)) (fun q _ _ _ _=>7-(intOf q).toNat)
 case atStart=>exact⟨0,zon _,rfl,fun j B=>absurd B (by omega),zof _ _⟩
 case round=>
  obtain⟨k,m,rfl,hz,hb⟩:=hrel;by_cases g:k<7
  ·obtain⟨J,O,L,I⟩:=zjZ hb.out g;have K:(k:Int)<7:=by omega
   have E:Hid (Below w.heap.size w wr):=(ze (ze (ze (ze (zof w.heap.size w))))).trans (hb.out.mono (by omega))
   have F:=hid (u.out k g (wr.alloc (PB (zM d k) (zS k) (yh k) (.func (.func (kY k)) #[d.v] #[]))) (zh E.out (ze (zof _ _))));have D:Hid (∀l,Below (wr.alloc (PB (zM d k) (zS k) (yh k) (.func (.func (kY k)) #[d.v] #[]))).heap.size (wr.alloc (PB (zM d k) (zS k) (yh k) (.func (.func (kY k)) #[d.v] #[]))) l->∀o,Below (w.heap.size+4) ((((w.alloc d.box).alloc FZ).alloc (JB d)).alloc (PS d)) (l.alloc o)):=fun l P o=>
    hb.out.trans ((ze (zh (ze (zof wr.heap.size wr)) P)).mono (by have:=hb.out.size;simpa using this))
   have y:Hid (∀C A,qB ((k:Int)+1) (zM d k) (zS k) (yh k) (cs k) C A->(C≠0->∀w',Below w.heap.size w w'->zI d cs w (.returned (.agg #[.int .i64 C,.int .i64 A])) w')/\(C=0->∀j,j<k+1->yE d cs j)):=fun C A h=>
    ⟨fun x w' hb=>⟨C,A,.inl ⟨k,g,h,x,hz.out⟩,rfl,hb⟩,fun x j B=>by
     by_cases R:j=k
     ·subst R;subst x;exact⟨A,h⟩
     ·exact hz.out j (by omega)⟩
   generalize zM d k=mn at*;generalize zS k=le at*;generalize yh k=mo at*;generalize kY k=jn at*;have t:w.heap.size+3<wr.heap.size:=(zbG hb.out).2.2.2.2;go_wp2_with fail
   refine F.out.mono ?_;rintro e l ⟨C,A,h,rfl,i⟩;have c:=hid (y.out C A h);have b:=hid (D.out l i (.cells #[.int .i64 C,.int .i64 A] 35));clear i F y D h J O L I t E u;by_cases a:C=0
   ·have H:=hid (c.out.2 a);subst a;clear c;go_wp2;go_roundw
    case rel=>exact⟨k+1,by omega,by go_num,H,b⟩
    case measure=>simp[intOf];omega
   ·have S:(C !=0)=true:=by simpa using a
    have r:=hid (c.out.1 a);obtain⟨f0,f1,z0,z1,sz⟩:=zbG b.out;have f:=hid (zg1 b.out (.int .i64 C) (.int .i64 A));clear c a hb hz b;go_wp2;exact bodyPost_ret (v:=.agg #[.int .i64 C,.int .i64 A]) (by simp[results,Tryz.results18,go_sem, *]) rfl (r.out _ f.out)
  ·have M:k=7:=by omega
   subst M;obtain⟨f0,f1,z0,z1,sz⟩:=zbG hb.out;have r:Hid (∀w',Below w.heap.size w w'->zI d cs w (.returned (.agg #[.int .i64 0,.int .i64 0])) w'):=fun w' hb=>⟨0,0,.inr ⟨hz.out,rfl,rfl⟩,rfl,hb⟩
   have f:=hid (zg1 hb.out (.int .i64 0) (.int .i64 0));clear u hb hz;go_wp2;exact bodyPost_ret (v:=.agg #[.int .i64 0,.int .i64 0]) (by simp[results,Tryz.results18,go_sem, *]) rfl (r.out _ f.out)
end Go.Proofs.YtbmcgbmegcpgnaaGreat
namespace Go.Proofs.YtbmcgbmegcpgnaaGreat.Wk
structure Sets where
 must : Nat
 may : Nat
 least : Nat
 most : Nat
 there : Bool
def zero:Sets:=⟨0,0,0,0,false⟩
structure IsAgg (P : Nat -> Nat -> Prop) (s : Sets) : Prop where
 th : s.there = true ↔ ∃ t b, P t b
 no : s.there = false -> s = zero
 mu : s.there = true -> ∀ k, s.must.testBit k = true ↔ ∀ t b, P t b -> t.testBit k = true
 ma : s.there = true -> ∀ k, s.may.testBit k = true ↔ ∃ t b, P t b /\ t.testBit k = true
 bd : ∀ t b, P t b -> s.least <= b /\ b <= s.most
 le : s.there = true -> ∃ t, P t s.least
 mo : s.there = true -> ∃ t, P t s.most
structure Par where
 n : Nat
 hb : Nat -> Nat
 sz : Nat -> Nat
 lead : Nat -> List Nat
 on : ∀ i j, i < n -> j ∈ lead i -> i < j /\ j <= n
theorem getD_set{A:List Sets}{i j:Nat}{x:Sets}(hi:i<A.length):(A.set i x).getD j zero=if i=j then x else A.getD j zero:=by
 simp only[zoi,List.getElem?_set];by_cases e:i=j
 ·subst e;simp[hi]
 ·simp[e]
structure Way where
 st : Nat
 tk : Nat
 by_ : Nat
def zrs(p:Par)(a:Nat->List Nat)(w:Way):List Way:=if w.st=p.n then[]else(a w.st).map fun j=>⟨j,w.tk|||p.hb w.st,w.by_+p.sz w.st⟩
def pot(n:Nat)(L:List Way):Nat:=(L.map fun w=>2^(n+1-w.st)).sum
structure Gone (p : Par) (ld : Nat -> List Nat) (i : Nat) (L : List Way) : Prop where
 le : i <= L.length
 eq : L = ⟨0, 0, 0⟩ :: (L.take i).flatMap (zrs p ld)
 st : ∀ w ∈ L, w.st <= p.n
 po : i + pot p.n (L.drop i) <= 2 ^ (p.n + 1)
end Go.Proofs.YtbmcgbmegcpgnaaGreat.Wk
