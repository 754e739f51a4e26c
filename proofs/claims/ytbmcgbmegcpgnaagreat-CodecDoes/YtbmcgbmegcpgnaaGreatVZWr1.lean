import Derived.Test.YtbmcgbmegcpgnaaGreatVZSumB
set_option maxHeartbeats 4000000
set_option maxRecDepth 20000
set_option linter.unusedSimpArgs false
namespace Go.Proofs.YtbmcgbmegcpgnaaGreat
open Go.RowKit
def zpQ:Nat->Nat->List Int
 |0,n=>[(n:Int)]
 |k+1,n=>if n<128 then[(n:Int)]else((n%128+128:Nat):Int)::zpQ k (n/128)
theorem zqD:∀(k n:Nat),n<=k->zpQ (k+1) n=zpQ k n
 |0,n,h=>by
  have e:n=0:=by omega
  subst e;rfl
 |k+1,n,h=>by
  show(if n<128 then[(n:Int)]else((n%128+128:Nat):Int)::zpQ (k+1) (n/128))=(if n<128 then[(n:Int)]else((n%128+128:Nat):Int)::zpQ k (n/128))
  by_cases a:n<128
  ·rw[if_pos a,if_pos a]
  ·rw[if_neg a,if_neg a,zqD k (n/128) (by omega)]
theorem zqE:∀(j k n:Nat),n<=k->zpQ (k+j) n=zpQ k n
 |0,_,_,_=>rfl
 |j+1,k,n,h=>by rw[<-Nat.add_assoc,zqD (k+j) n (by omega),zqE j k n h]
def y8(n:Nat):List Int:=zpQ n n
theorem zpE{n:Nat}(h:n<128):y8 n=[(n:Int)]:=by
 unfold y8;cases n with
 |zero=>rfl
 |succ n=>rw[zpQ,if_pos h]
theorem zpU{n:Nat}(h:¬n<128):y8 n=((n%128+128:Nat):Int)::y8 (n/128):=by
 unfold y8;obtain⟨m,rfl⟩:∃m,n=m+1:=⟨n-1,by omega⟩
 rw[zpQ,if_neg h];have:=zqE (m-(m+1)/128) ((m+1)/128) ((m+1)/128) (zos _);rw[show(m+1)/128+(m-(m+1)/128)=m by omega]at this
 rw[this]
theorem yv(n:Nat):Mth.Byt (y8 n):=by
 induction n using Nat.strongRecOn with
 |ind n ih=>
  by_cases h:n<128
  ·rw[zpE h];intro x a;simp only[zoD,zoA,or_false]at a;omega
  ·rw[zpU h];intro x a;rcases zoD.1 a with rfl|a
   ·omega
   ·exact ih (n/128) (by omega) x a
def RowB(B:Nat)(v:Value)(bs:List Int)(w:World):Prop:=w.ownsRow B 5 1 v bs.length (BB bs)\/∃g a f,v=.slice (some ⟨g,0,none⟩) bs.length bs.length/\B<=g/\w.heap[g]?=some (.cells a 5 f)/\a.toList=BB bs/\0<bs.length
theorem RowB.blk{B:Nat}{v:Value}{bs:List Int}{w:World}(h:RowB B v bs w){k:Nat}(b:v.ownBlock=some k):B<=k/\∃a f,w.heap[k]?=some (.cells a 5 f):=by
 rcases h with h|⟨g,a,f,rfl,e,i,_⟩
 ·rcases h.2 with⟨c,_⟩|⟨j,c2,a,c,hb,d,_⟩
  ·rw[c]at b;simp[Value.ownBlock]at b
  ·rw[c]at b;simp only[Value.ownBlock,zoo]at b;subst b;exact⟨hb,a,_,d⟩
 ·simp only[Value.ownBlock,zoo]at b;subst b;exact⟨e,a,f,i⟩
theorem RowB.step{B:Nat}{v:Value}{bs:List Int}{w w':World}(h:RowB B v bs w)(hb:Below w.heap.size w w'):RowB B v bs w':=by
 rcases h with h|⟨g,a,f,e,c,b,r⟩
 ·exact .inl (ya h hb)
 ·exact .inr ⟨g,a,f,e,c,(hb.block g (zoj.1 b).1).trans b,r⟩
theorem RowB.has{B:Nat}{a:Option Addr}{c:Nat}{bs:List Int}{w:World}(h:RowB B (.slice a bs.length c) bs w)(hb:Mth.Byt bs):Has .u8 w a bs.length bs:=by
 rcases h with h|⟨g,b,f,e,_,d,j,_⟩
 ·obtain⟨m,o,e,k⟩:=zaW h (zqI hb);simp only[zox,true_and]at e;obtain⟨rfl,rfl⟩:=e;exact k
 ·simp only[zox,true_and]at e;obtain⟨rfl,rfl⟩:=e;refine⟨rfl,fun n l=>zi6 n (hb n l),.inr ⟨g,0,rfl,(zoj.1 d).1,fun i hi=>?_⟩⟩
  have:b[i]?=some (.int .u8 (bs.getD i 0)):=by
   rw[<-Array.getElem?_toList,j];simp only[BB,zoy,zoi,zoh hi,Option.map_some,zoC]
  simp[World.cell?,d,this]
theorem RowB.app{B:Nat}{a:Option Addr}{c:Nat}{bs:List Int}{w:World}(h:RowB B (.slice a bs.length c) bs w){ad:Addr}{m c2:Nat}{zs:List Int}(L:zs.length=m)(y:∀j u,(BB zs)[j]?=some u->w.cell? (ad.add j)=some u)(F:0<m)(hs:bs.length+m<=10000000)(x:B<=w.heap.size):
 ∃g cap d,(Builtin.append_ #[30,30] 30 #[.slice a bs.length c,.slice (some ad) m c2]).run Tryz.prog w=.ok (.slice (some ⟨g,0,none⟩) (bs.length+m) cap) d/\d.ownsRow B 5 1 (.slice (some ⟨g,0,none⟩) (bs.length+m) cap) (bs.length+m) (BB (bs++zs))/\w.grownBy d (Value.slice a bs.length c).ownBlock:=by
 have D:BB (bs++zs)=BB bs++BB zs:=by simp[BB]
 rw[D];rcases h with h|⟨g,G,f,e,A,H,C,K⟩
 ·obtain⟨g,cap,d,l,I,A,_⟩:=xL (w:=w) (ad:=ad) (m:=m) (c:=c2) (news:=BB zs) 30 Tryz.underlying30 Tryz.info5 rfl (by decide) h (by simp[BB];omega) y (zmF zs) F (by unfold maxLen;omega) (by omega) x
  exact⟨g,cap,d,l,I,A⟩
 ·simp only[zox,true_and]at e;obtain⟨rfl,rfl⟩:=e;obtain⟨J,hi,o,i,r⟩:=info_parts Tryz.info5;have b:=run_append_grow (P:=Tryz.prog) w 30 30 5 J (.int .u8 0) Tryz.underlying30 hi o ⟨g,0,none⟩ bs.length bs.length (BB bs) (by rw[i];simp[BB]) (fun j v t=>by
   rw[<-C,Array.getElem?_toList]at t;rw[Addr.add_lit,zoK];simp[World.cell?,H,t]) ad m c2 (BB zs) (by rw[i];simp[BB];omega) y (by omega) (by omega) (by rw[r];exact growslice_fits (by omega) (by omega))
  have n:=grownCap_ge w (bs.length+m) bs.length 5;have q:=grownCap_le_maxLen w (bs.length+m) bs.length 5 (by unfold maxLen;omega)
  refine⟨_,_,_,b,⟨by simp[BB];omega,.inr ⟨w.heap.size,_,_,rfl,x,heap_alloc_new w.drew _,n,q,?_,?_⟩⟩,⟨rfl,rfl,rfl,by simp,fun k E _=>(ze (zof w.drew.heap.size w.drew)).block k E⟩⟩
  ·have s:(Value.int IntKind.u8 0).cells.size=1:=rfl;simp only[Array.size_append,List.size_toArray,size_zeroCells,s,BB,zoE];omega
  ·have:(bs.length+m)*1=(BB bs++BB zs).length:=by simp[BB];omega
   rw[this,Array.toList_append,Array.toList_append,List.take_append_of_le_length (by simp)]
   simp only[List.length_append];rw[<-List.length_append,List.take_length]
structure Wr (B p : Nat) (bs : List Int) (w : World) : Prop where
 ex : ∃ a c, w.heap[p]? = some (.cells #[.slice a bs.length c] 70 (0, 0)) /\ RowB B (.slice a bs.length c) bs w
 low : B <= p
 byt : Mth.Byt bs
def Fram(p:Nat)(w w':World):Prop:=w.heap.size<=w'.heap.size/\∀k cs T f,k≠p->T≠5->w.heap[k]?=some (.cells cs T f)->w'.heap[k]?=some (.cells cs T f)
theorem Fram.trans{p:Nat}{a b c:World}(h:Fram p a b)(k:Fram p b c):Fram p a c:=⟨zoz h.1 k.1,fun j cs T f e d g=>k.2 j cs T f e d (h.2 j cs T f e d g)⟩
theorem Fram.refl(p:Nat)(w:World):Fram p w w:=⟨zos _,fun _ _ _ _ _ _ h=>h⟩
theorem Fram.below{p:Nat}{w w':World}(b:Below w.heap.size w w'):Fram p w w':=⟨b.size,fun k _ _ _ _ _ h=>(b.block k (zoj.1 h).1).trans h⟩
def km(B p:Nat)(bs:List Int)(w:World)(e:Ending)(w':World):Prop:=e=.returned (.tuple #[])/\Wr B p bs w'/\Below B w w'/\Fram p w w'
theorem Wr.at{B p:Nat}{bs:List Int}{w:World}(h:Wr B p bs w):∃a c,w.cell? ⟨p,0,none⟩=some (.slice a bs.length c)/\w.frozen? ⟨p,0,none⟩=false/\p<w.heap.size/\RowB B (.slice a bs.length c) bs w:=by
 obtain⟨a,c,b,d⟩:=h.ex;exact⟨a,c,by simp[World.cell?,b],by simp[World.frozen?,b],(zoj.1 b).1,d⟩
theorem Wr.step{B p:Nat}{bs:List Int}{w w':World}(h:Wr B p bs w)(hb:Below w.heap.size w w'):Wr B p bs w':=by
 obtain⟨a,c,b,d⟩:=h.ex;exact⟨⟨a,c,(hb.block p (zoj.1 b).1).trans b,d.step hb⟩,h.low,h.byt⟩
theorem Wr.push{B p:Nat}{bs:List Int}{w:World}(h:Wr B p bs w){a:Option Addr}{c:Nat}(K:w.cell? ⟨p,0,none⟩=some (.slice a bs.length c))(x:Int)(N:0<=x/\x<256)(R:bs.length<=9000000):∃g cap d,(Builtin.append_ #[30,30] 30 #[.slice a bs.length c,.slice (some ⟨w.heap.size,0,none⟩) 1 1]).run Tryz.prog (w.alloc (.cells #[.int .u8 x] 5))=.ok (.slice (some ⟨g,0,none⟩) (bs.length+1) cap) d/\d.cell? ⟨p,0,none⟩=some (.slice a bs.length c)/\d.frozen? ⟨p,0,none⟩=false/\p<d.heap.size/\Wr B p (bs++[x]) (d.setCell ⟨p,0,none⟩ (.slice (some ⟨g,0,none⟩) (bs.length+1) cap))/\Below B w (d.setCell ⟨p,0,none⟩ (.slice (some ⟨g,0,none⟩) (bs.length+1) cap))/\Fram p w (d.setCell ⟨p,0,none⟩ (.slice (some ⟨g,0,none⟩) (bs.length+1) cap)):=by
 obtain⟨I,G,s,r⟩:=h.ex;have e:(.slice a bs.length c:Value)=.slice I bs.length G:=by
  have:w.cell? ⟨p,0,none⟩=some (.slice I bs.length G):=by simp[World.cell?,s]
  rw[K]at this;exact zoq this
 simp only[zox,true_and]at e;obtain⟨rfl,rfl⟩:=e;have L:=(zoj.1 s).1;have P:=h.low;have b:Below w.heap.size w (w.alloc (.cells #[.int .u8 x] 5)):=ze (zof _ _);have J:=b.size;obtain⟨g,cap,d,o,H,u⟩:=(r.step b).app (ad:=⟨w.heap.size,0,none⟩) (m:=1) (c2:=1) (zs:=[x]) rfl zbH (by decide) (by omega) (by omega)
 have E:some p≠(Value.slice a bs.length c).ownBlock:=fun e=>by
  obtain⟨_,n,f,i⟩:=r.blk e.symm;rw[s]at i;simp only[zoo,Obj.cells.injEq]at i;exact absurd i.2.1 (by decide)
 have q:d.heap[p]?=some (.cells #[.slice a bs.length c] 70 (0,0)):=(u.block p (by omega) E).trans ((b.block p L).trans s)
 have C:g≠p:=fun e=>by
  subst e;rcases H.2 with⟨t,_⟩|⟨S,c2,n,t,_,i,_⟩
  ·cases t
  ·simp only[zox,zoo,Addr.mk.injEq,and_true]at t;rw[<-t.1,q]at i;simp only[zoo,Obj.cells.injEq]at i;exact absurd i.2.1 (by decide)
 have M:(d.setCell ⟨p,0,none⟩ (.slice (some ⟨g,0,none⟩) (bs.length+1) cap)).heap[p]?=some (.cells #[.slice (some ⟨g,0,none⟩) (bs.length+1) cap] 70 (0,0)):=by
  simp[World.setCell,Array.getElem?_modify,q]
 refine⟨g,cap,d,o,by simp[World.cell?,q],by simp[World.frozen?,q],(zoj.1 q).1,⟨⟨some ⟨g,0,none⟩,cap,?_,?_⟩,h.low,?_⟩,?_,?_⟩
 ·rw[show(bs++[x]).length=bs.length+1 by simp]
  exact M
 ·unfold RowB;rw[show(bs++[x]).length=bs.length+1 by simp]
  exact .inl (ownsRow_setCell_other H (by simp[Value.ownBlock];exact C) _)
 ·intro y j;rcases List.mem_append.1 j with j|j
  ·exact h.byt y j
  ·simp only[zoD,zoA,or_false]at j;rw[j];exact N
 ·exact(((b.mono (by omega)).grown u (by omega) fun k l=>(r.blk l).1).setCell h.low _)
 ·refine⟨by rw[zow];have:=u.size;omega,fun k cs T f F O l=>?_⟩
  have D:=(zoj.1 l).1;have A:some k≠(Value.slice a bs.length c).ownBlock:=fun e=>by
   obtain⟨_,n,Q,i⟩:=r.blk e.symm;rw[l]at i;simp only[zoo,Obj.cells.injEq]at i;exact O i.2.1
  rw[zop _ _ _ _ F,u.block k (by omega) A,b.block k D]
  exact l
theorem zvu(m:Nat)(a:m<18446744073709551616):bits .and .u64 (m:Int) 127=((m%128:Nat):Int):=by
 have:=u64_and (m:Int) 127 (by omega) (by omega) (by decide) (by decide)
 rw[this,zov];show((m&&& 127:Nat):Int)=_;rw[show(127:Nat)=2^7-1 from rfl,Nat.and_two_pow_sub_one_eq_mod]
theorem zvs(m:Nat)(a:m<128):bits .or .u8 (m:Int) 128=((m+128:Nat):Int):=by
 have:=u8_or (m:Int) 128 (by omega) (by omega) (by decide) (by decide)
 rw[this,zov];show((m|||128:Nat):Int)=_
 rw[Nat.or_comm,show(128:Nat)=2^7*1 from rfl,<-Nat.two_pow_add_eq_or_of_lt (by omega)]
 omega
theorem zp9(B p:Nat)(bs:List Int)(n:Nat)(w:World)(J:n<18446744073709551616)(h:Wr B p bs w)(C:(bs++y8 n).length<=9000000):
 Calls Tryz.prog 101 #[.pointer (some ⟨p,0,none⟩),.int .u64 n] w (km B p (bs++y8 n) w):=by
 have D:=hid h;have L:=hid C;clear h C;go_enter Tryz.func101,Tryz.ntmps101
 go_wp2;go_loopw [1] (fun q wr=>∃(m:Nat) (cs:List Int),q=.int .u64 m/\Hid (m<18446744073709551616)/\Hid (cs++y8 m=bs++y8 n)/\Hid (Wr B p cs wr)/\Hid (Below B w wr)/\Hid (Fram p w wr)) (fun q _=>(intOf q).toNat)
 case atStart=>exact⟨n,bs,rfl,J,rfl,D,zof _ _,Fram.refl _ _⟩
 case round=>
  obtain⟨m,cs,rfl,t,f,e,s,o⟩:=hrel;have t:=t.out;have d:cs.length<=9000000:=by have I:=congrArg List.length f.out;have Q:=L.out;rw[List.length_append]at I;omega
  obtain⟨a,c,A,O,R,_⟩:=e.out.at;by_cases l:m<128
  ·have K:¬(127:Int)<(m:Int):=by omega
   obtain⟨g,cap,y,b,q1,q2,q3,j,i,k⟩:=e.out.push A (m:Int) (by omega) d
   have u:IntKind.u8.wrap (m:Int)=(m:Int):=by rw[zqs,Nat.mod_eq_of_lt (by omega)]
   have E:Hid (km B p (bs++y8 n) w (.returned (.tuple #[])) (y.setCell ⟨p,0,none⟩ (.slice (some ⟨g,0,none⟩) (cs.length+1) cap))):=⟨rfl,by rw[<-f.out,zpE l];exact j,s.out.trans i,o.out.trans k⟩
   clear j i k f e s o;go_wp2_with (at_builtin;refine yg rfl _ _ rfl rfl rfl b ?_)
   go_end0
   exact E.out
  ·have K:(127:Int)<(m:Int):=by omega
   obtain⟨g,cap,y,b,q1,q2,q3,j,i,k⟩:=e.out.push A ((m%128+128:Nat):Int) (by omega) d
   have P:=zvu m t;have u:IntKind.u8.wrap ((m%128:Nat):Int)=((m%128:Nat):Int):=by rw[zqs,Nat.mod_eq_of_lt (by omega)]
   have S:=zvs (m%128) (by omega)
   have H:Hid ((cs++[((m%128+128:Nat):Int)])++y8 (m/128)=bs++y8 n):=by
    show _=_;rw[<-f.out,zpU l];simp
   have N:=hid j;have G:=hid (s.out.trans i);have M:=hid (o.out.trans k);have x:m/128<18446744073709551616:=by omega
   generalize F:m%128=r at*;clear F j i k f e s o;go_wp2_with (at_builtin;refine yg rfl _ _ rfl rfl rfl b ?_)
   go_roundw
   case rel=>exact⟨m/128,_,zhs (by omega),x,H,N,G,M⟩
   case measure=>simp[intOf];omega
def zpW(n:Int):Nat:=if n<0 then(-2*n-1).toNat else(2*n).toNat
def zk(n:Int):List Int:=y8 (zpW n)
theorem zrJ{n:Int}(h:wfI n):zpW n<18446744073709551616:=by
 have:=bounds_i64 h;unfold zpW;split<;>omega
theorem zso(s:Nat)(hs:s<18446744073709551616):18446744073709551615 ^^^ s=18446744073709551615-s:=by
 have e:18446744073709551615-s=2^64-(s+1):=by omega
 rw[e,show(18446744073709551615:Nat)=2^64-1 from rfl]
 apply Nat.eq_of_testBit_eq
 intro i;rw[Nat.testBit_xor,Nat.testBit_two_pow_sub_one,Nat.testBit_two_pow_sub_succ (by omega)]
 by_cases h:i<64
 ·simp[h]
 ·have:s.testBit i=false:=Nat.testBit_lt_two_pow (zom hs (show 2^64<=2^i from Nat.pow_le_pow_right (by decide) (by omega)))
  simp[h,this]
theorem zt2{n:Int}(c: -9223372036854775808<=n)(a:n<0):bits .xor .u64 IntKind.u64.max (IntKind.u64.wrap (IntKind.u64.wrap n*2))=((zpW n:Nat):Int):=by
 have b:IntKind.u64.wrap (IntKind.u64.wrap n*2)=(((2*n+18446744073709551616).toNat:Nat):Int):=by
  simp[IntKind.wrap,IntKind.bits,IntKind.signed];omega
 have hs:(2*n+18446744073709551616).toNat<18446744073709551616:=by omega
 rw[b];have:=u64_xor IntKind.u64.max (((2*n+18446744073709551616).toNat:Nat):Int) (by decide) (by decide) (by omega) (by omega)
 rw[this,show IntKind.u64.max.toNat=18446744073709551615 from rfl,zov,zso _ hs]
 unfold zpW;rw[if_pos a];omega
theorem kn(B p:Nat)(bs:List Int)(n:Int)(w:World)(j:wfI n)(h:Wr B p bs w)(i:(bs++zk n).length<=9000000):
 Calls Tryz.prog 56 #[.pointer (some ⟨p,0,none⟩),.int .i64 n] w (km B p (bs++zk n) w):=by
 have d:=hid (zp9 B p bs (zpW n) w (zrJ j) h i);have hb:=bounds_i64 j;have HD:Hid (∀w',Wr B p (bs++y8 (zpW n)) w'->Below B w w'->Fram p w w'->km B p (bs++zk n) w (.returned (.tuple #[])) w'):=fun _ c b a=>⟨rfl,c,b,a⟩
 clear h i;by_cases hs:n<0
 ·have e:=zt2 (by omega) hs
  rw[<-e]at d;clear e;go_enter Tryz.func56,Tryz.ntmps56
  go_wp2_with fail
  refine d.out.mono ?_;rintro e g ⟨rfl,c,b,a⟩;have f:=hid (HD.out g c b a);clear c b a d HD;go_wp2;go_end0
  exact f.out
 ·have e:((zpW n:Nat):Int)=n*2:=by unfold zpW;rw[if_neg hs];omega
  rw[e]at d;clear e;go_enter Tryz.func56,Tryz.ntmps56
  go_wp2_with fail
  refine d.out.mono ?_;rintro e g ⟨rfl,c,b,a⟩;have f:=hid (HD.out g c b a);clear c b a d HD;go_wp2;go_end0
  exact f.out
end Go.Proofs.YtbmcgbmegcpgnaaGreat
