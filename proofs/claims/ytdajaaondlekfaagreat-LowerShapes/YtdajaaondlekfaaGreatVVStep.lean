import Derived.Test.YtdajaaondlekfaaGreatVVReady
import Derived.Test.YtdajaaondlekfaaGreatG8
set_option maxHeartbeats 4000000
set_option maxRecDepth 20000
set_option linter.unusedSimpArgs false
namespace Go.Proofs.YtdajaaondlekfaaGreat
open Go.RowKit
def xO(k:VMK)(ts:List ShapeD)(C:VMD->InsD->Int × VMD)(m:VMD)(x:InsD):Int × VMD:=
 if xV ts m x=false then(15,m)
 else if x.op=1\/x.op=2\/x.op=3\/x.op=4\/x.op=5\/x.op=7\/x.op=18 then(0,m.setR x.r.toNat (zaP k m x))
 else if x.op=8 then(0,m.setS x.n.toNat (m.rn x.r.toNat) (m.rs x.r.toNat))
 else if x.op=6 then(if jy k.pk.n (m.rn x.s.toNat) (x.n.toNat+x.k.toNat)=true then(0,m.setR x.r.toNat (zaO (yO k (m.rn x.s.toNat+x.n.toNat) x.k.toNat)))else(16,m))
 else if x.op=13 then C m x
 else if x.op=14 then(0,m.send (kP (m.rn x.r.toNat) x.k.toNat))
 else if x.op=15 then(if m.rn x.r.toNat<=k.pk.n then(0,m.send (k.zs.drop (m.rn x.r.toNat)))else(16,m))
 else(0,m)
structure znR (W : World) (k : VMK) : Prop where
 has : Has .u8 W k.pk.a k.pk.n k.zs
 nil : k.pk.nil0
 few : k.pk.n <= 600
 cap : k.pk.n <= k.pk.c
 port : k.port < 65536
structure zm8 (x : InsD) : Prop extends XOk x where
 n0 : 0 <= x.n /\ x.n < 18446744073709551616
 ld : x.op = 6 -> 1 <= x.k /\ x.k <= 8 /\ x.n <= 600
 pt : x.op = 14 -> 1 <= x.k /\ x.k <= 8
theorem qH{w:World}{c b p q:Nat}{v v':Value}{o:Obj}{y u m j g i:Nat}{t s n r l k:Value}(f:c≠b)(h:w.cell? ⟨c,y,none⟩=some t/\w.cell? ⟨c,u,none⟩=some s/\w.cell? ⟨c,m,none⟩=some n/\w.cell? ⟨c,j,none⟩=some r/\w.cell? ⟨c,g,none⟩=some l/\w.cell? ⟨c,i,none⟩=some k):
 (((w.setCell ⟨b,p,none⟩ v).setCell ⟨b,q,none⟩ v').alloc o).cell? ⟨c,y,none⟩=some t/\(((w.setCell ⟨b,p,none⟩ v).setCell ⟨b,q,none⟩ v').alloc o).cell? ⟨c,u,none⟩=some s/\(((w.setCell ⟨b,p,none⟩ v).setCell ⟨b,q,none⟩ v').alloc o).cell? ⟨c,m,none⟩=some n/\(((w.setCell ⟨b,p,none⟩ v).setCell ⟨b,q,none⟩ v').alloc o).cell? ⟨c,j,none⟩=some r/\(((w.setCell ⟨b,p,none⟩ v).setCell ⟨b,q,none⟩ v').alloc o).cell? ⟨c,g,none⟩=some l/\(((w.setCell ⟨b,p,none⟩ v).setCell ⟨b,q,none⟩ v').alloc o).cell? ⟨c,i,none⟩=some k:=by
 have d:∀{a:Nat} {x:Value},w.cell? ⟨c,a,none⟩=some x->(((w.setCell ⟨b,p,none⟩ v).setCell ⟨b,q,none⟩ v').alloc o).cell? ⟨c,a,none⟩=some x:=fun{a x} h=>
  za ((World.cell?_setCell_far _ _ _ _ (by exact fun e=>f e.symm)).trans ((World.cell?_setCell_far _ _ _ _ (by exact fun e=>f e.symm)).trans h)) (ze (zof _ _))
 exact⟨d h.1,d h.2.1,d h.2.2.1,d h.2.2.2.1,d h.2.2.2.2.1,d h.2.2.2.2.2⟩
theorem VMAt.drew{W:World}{b:Nat}{k:VMK}{m:VMD}{w:World}(h:VMAt W b k m w):VMAt W b k m w.drew:=h.step (zof _ _).drew
theorem znS{W:World}{b:Nat}{k:VMK}{m:VMD}{w:World}(ts:List ShapeD)(C:VMD->InsD->Int × VMD)(h:VMAt W b k m w)(hk:znR W k)(x:InsD)(hx:zm8 x)(b5:x.op≠13)(hs:m.out.length<=90000000):
 Calls Tryz.prog 53 #[kQ b,x.v] w (yo W b k (xO k ts C m x).2 w (.int .i64 (xO k ts C m x).1)):=by
 have hR:=zm6 ts (w:=w.alloc (.cells #[.int .i64 x.op,.int .i64 x.r,.int .i64 x.s,.int .i64 x.k,.int .i64 x.to,.int .u64 x.n] 126)) (h.step (ze (zof _ _))) x hx.toXOk b5;obtain⟨op,r,s,H,M,n⟩:=x;obtain⟨⟨hr,b0,hn,c8⟩,b9,a2,a3⟩:=hx;dsimp only at hr b0 hn b5 c8 b9 a2 a3 hR;replace b0:=b0.resolve_left b5
 obtain⟨r,rfl⟩:∃i:Nat,r=i:=⟨r.toNat,by omega⟩
 obtain⟨s,rfl⟩:∃i:Nat,s=i:=⟨s.toNat,by omega⟩
 obtain⟨n,rfl⟩:∃i:Nat,n=i:=⟨n.toNat,by omega⟩
 dsimp only[InsD.v]at hR ⊢;obtain⟨T,hW1⟩:∃T,T=w.alloc (.cells #[.int .i64 op,.int .i64 (r:Int),.int .i64 (s:Int),.int .i64 H,.int .i64 M,.int .u64 (n:Int)] 126):=⟨_,rfl⟩;obtain⟨ib,hib⟩:∃b,b=w.heap.size:=⟨_,rfl⟩;have b1:Below w.heap.size w T:=by rw[hW1];exact ze (zof _ _)
 have IB:IBox ⟨op,r,s,H,M,n⟩ T ib:=by rw[hW1,hib];exact ji ⟨op,r,s,H,M,n⟩ w
 rw[<-hW1]at hR;have L:=hid hR;have HM:=hid (h.step b1);have d:=hid IB;have HB:=hid b1;have Q:=hid hW1;have R:=hid hib;obtain⟨U,i1,Z,i3,i4,i5⟩:=IB;dsimp only at U i1 Z i3 i4 i5;have y:ib<T.heap.size:=zog _ _ U;have a6:ib≠b:=by
  have:=h.lt;omega
 have d2:(r:Int)<10:=by omega
 generalize N:xO k ts C m ⟨op,r,s,H,M,n⟩=S;unfold xO at N;dsimp only at N;rw[zov,zov,zov]at N;cases hq:xV ts m ⟨op,r,s,H,M,n⟩with
 |false=>
  rw[hq]at N L;rw[if_pos rfl]at N;subst N;dsimp only;clear hR hq h hk hW1 hib b1;go_enter Tryz.func53,Tryz.ntmps53
  go_upto_region 1 with fail
  rw[<-Q.out,<-R.out];clear Q R;go_wp2_with fail
  refine L.out.mono ?_;rintro e j ⟨rfl,g⟩;have HD:Hid (yo W b k m w (.int .i64 15) (.returned (.int .i64 15)) j):=⟨rfl,HM.out.step g,GFram.below (zh HB.out g)⟩;clear g L;go_wp2;go_ret;exact HD.out
 |true=>
  rw[hq]at N L;rw[if_neg (by decide)]at N
  clear hR hq hW1 hib b1;have I:Hid (∀j,Below T.heap.size T j->j.cell? ⟨ib,0,none⟩=some (.int .i64 op)/\j.cell? ⟨ib,1,none⟩=some (.int .i64 (r:Int))/\j.cell? ⟨ib,2,none⟩=some (.int .i64 (s:Int))/\j.cell? ⟨ib,3,none⟩=some (.int .i64 H)/\j.cell? ⟨ib,4,none⟩=some (.int .i64 M)/\j.cell? ⟨ib,5,none⟩=some (.int .u64 (n:Int))/\ib<j.heap.size/\VMAt W b k m j):=fun j hb=>⟨za U hb,za i1 hb,za Z hb,za i3 hb,za i4 hb,za i5 hb,zom y hb.size,HM.out.step hb⟩
  have a5:=hid (fun n w=>zhh n w)
  by_cases q1:op=1\/op=2\/op=3\/op=4\/op=5\/op=7\/op=18
  ·rw[if_pos q1]at N;subst N;dsimp only;have K:Hid (∀j,VMAt W b k m j->Calls Tryz.prog 90 #[kQ b,.agg #[.int .i64 op,.int .i64 (r:Int),.int .i64 (s:Int),.int .i64 H,.int .i64 M,.int .u64 (n:Int)]] j fun e w'=>e=.returned (.int .u64 (zaP k m ⟨op,r,s,H,M,n⟩:Int))/\Below j.heap.size j w'):=fun j h2=>znO h2 ⟨op,r,s,H,M,n⟩ hr b0 (by show(0:Int)<=(n:Int);omega) (fun h7=>(hn (.inl h7)).2) q1
   have b7:=zkH h ⟨op,r,s,H,M,n⟩ b9 (by have:=hk.port;omega)
   generalize zaP k m ⟨op,r,s,H,M,n⟩=V at*;have d4:=hid b7;have J:Hid (∀j:World,VMAt W b k m j->Below T.heap.size T j->∀o,yo W b k (m.setR r V) w (.int .i64 0) (.returned (.int .i64 0)) (((j.setCell ⟨b,r*2,none⟩ (.int .u64 (V:Int))).setCell ⟨b,r*2+1,none⟩ (.bool true)).alloc o)):=fun j h2 hz o=>⟨rfl,(h2.putR (by omega) b7).step (ze (zof _ _)),(GFram.below (zh HB.out hz)).trans (((GFram.put _ _).trans (GFram.put _ _)).trans (GFram.below (ze (zof _ _))))⟩
   clear b7 h hk hn a2 a3 U i1 Z i3 i4 i5 y;rcases q1 with rfl|rfl|rfl|rfl|rfl|rfl|rfl
   ·go_enter Tryz.func53,Tryz.ntmps53
    go_upto_region 1 with fail
    rw[<-Q.out,<-R.out];clear Q R;have A:=d.out.c0;have F:=d.out.c1;have E:=d.out.c2;have D:=d.out.c3;have G:=d.out.c4;have B:=d.out.c5;dsimp only at A F E D G B;go_wp2_with fail
    refine L.out.mono ?_;rintro e j ⟨rfl,g⟩;obtain⟨U,i1,Z,i3,i4,i5,y,f⟩:=I.out j g;have a8:=hid f.drew;have u:=hid (K.out _ f.drew);have O:Hid (∀a,Below j.drew.heap.size j.drew a->a.cell? ⟨ib,0,none⟩=some (.int .i64 1)/\a.cell? ⟨ib,1,none⟩=some (.int .i64 (r:Int))/\a.cell? ⟨ib,2,none⟩=some (.int .i64 (s:Int))/\a.cell? ⟨ib,3,none⟩=some (.int .i64 H)/\a.cell? ⟨ib,4,none⟩=some (.int .i64 M)/\a.cell? ⟨ib,5,none⟩=some (.int .u64 (n:Int))/\ib<a.heap.size/\a.cell? ⟨b,r*2,none⟩=some (.int .u64 (m.rn r:Int))/\a.cell? ⟨b,r*2+1,none⟩=some (.bool (m.rs r))/\a.frozen? ⟨b,r*2,none⟩=false/\a.frozen? ⟨b,r*2+1,none⟩=false/\b<a.heap.size/\Hid (∀o,yo W b k (m.setR r V) w (.int .i64 0) (.returned (.int .i64 0)) (((a.setCell ⟨b,r*2,none⟩ (.int .u64 (V:Int))).setCell ⟨b,r*2+1,none⟩ (.bool true)).alloc o))):=fun a hb=>by
     have l:Below T.heap.size T a:=zh (zh g (zof j.heap.size j).drew) hb;obtain⟨k0,k1,k2,k3,k4,k5,kl,t⟩:=I.out a l;exact⟨k0,k1,k2,k3,k4,k5,kl,t.rn r (by omega),t.rs r (by omega),t.fz _,t.fz _,t.lt,J.out a t l⟩
    clear A F E D G B L K J g f I HM;go_wp2_with fail
    go_region_held3 (fun w'=>w'.cell? ⟨ib,0,none⟩=some (.int .i64 1)/\w'.cell? ⟨ib,1,none⟩=some (.int .i64 (r:Int))/\w'.cell? ⟨ib,2,none⟩=some (.int .i64 (s:Int))/\w'.cell? ⟨ib,3,none⟩=some (.int .i64 H)/\w'.cell? ⟨ib,4,none⟩=some (.int .i64 M)/\w'.cell? ⟨ib,5,none⟩=some (.int .u64 (n:Int)))
     (first
      |go_keep
      |(go_split_ands;with_reducible exact qG ⟨by assumption,by assumption,by assumption,by assumption,by assumption,by assumption⟩ l)
      |(go_split_ands;exact qH a6 ⟨by assumption,by assumption,by assumption,by assumption,by assumption,by assumption⟩))
     (first
      |(go_at_call 90;refine u.out.mono ?_;rintro e a ⟨rfl,l⟩;obtain⟨x0,x1,x2,x3,x4,x5,y2,y3,y4,y5,y6,y7,P⟩:=O.out a l)
      |(go_at_call 89;refine(a5.out _ _).mono ?_;rintro e wy ⟨rfl,rfl⟩))
    all_goals
     clear x0 x1 x2 x3 x4 x5 y2 y3 y4 y5 y6 y7;go_wp2;go_ret;exact P.out _
   ·go_enter Tryz.func53,Tryz.ntmps53
    go_upto_region 1 with fail
    rw[<-Q.out,<-R.out];clear Q R;have A:=d.out.c0;have F:=d.out.c1;have E:=d.out.c2;have D:=d.out.c3;have G:=d.out.c4;have B:=d.out.c5;dsimp only at A F E D G B;go_wp2_with fail
    refine L.out.mono ?_;rintro e j ⟨rfl,g⟩;obtain⟨U,i1,Z,i3,i4,i5,y,f⟩:=I.out j g;have a8:=hid f.drew;have u:=hid (K.out _ f.drew);have O:Hid (∀a,Below j.drew.heap.size j.drew a->a.cell? ⟨ib,0,none⟩=some (.int .i64 2)/\a.cell? ⟨ib,1,none⟩=some (.int .i64 (r:Int))/\a.cell? ⟨ib,2,none⟩=some (.int .i64 (s:Int))/\a.cell? ⟨ib,3,none⟩=some (.int .i64 H)/\a.cell? ⟨ib,4,none⟩=some (.int .i64 M)/\a.cell? ⟨ib,5,none⟩=some (.int .u64 (n:Int))/\ib<a.heap.size/\a.cell? ⟨b,r*2,none⟩=some (.int .u64 (m.rn r:Int))/\a.cell? ⟨b,r*2+1,none⟩=some (.bool (m.rs r))/\a.frozen? ⟨b,r*2,none⟩=false/\a.frozen? ⟨b,r*2+1,none⟩=false/\b<a.heap.size/\Hid (∀o,yo W b k (m.setR r V) w (.int .i64 0) (.returned (.int .i64 0)) (((a.setCell ⟨b,r*2,none⟩ (.int .u64 (V:Int))).setCell ⟨b,r*2+1,none⟩ (.bool true)).alloc o))):=fun a hb=>by
     have l:Below T.heap.size T a:=zh (zh g (zof j.heap.size j).drew) hb;obtain⟨k0,k1,k2,k3,k4,k5,kl,t⟩:=I.out a l;exact⟨k0,k1,k2,k3,k4,k5,kl,t.rn r (by omega),t.rs r (by omega),t.fz _,t.fz _,t.lt,J.out a t l⟩
    clear A F E D G B L K J g f I HM;go_wp2_with fail
    go_region_held3 (fun w'=>w'.cell? ⟨ib,0,none⟩=some (.int .i64 2)/\w'.cell? ⟨ib,1,none⟩=some (.int .i64 (r:Int))/\w'.cell? ⟨ib,2,none⟩=some (.int .i64 (s:Int))/\w'.cell? ⟨ib,3,none⟩=some (.int .i64 H)/\w'.cell? ⟨ib,4,none⟩=some (.int .i64 M)/\w'.cell? ⟨ib,5,none⟩=some (.int .u64 (n:Int)))
     (first
      |go_keep
      |(go_split_ands;with_reducible exact qG ⟨by assumption,by assumption,by assumption,by assumption,by assumption,by assumption⟩ l)
      |(go_split_ands;exact qH a6 ⟨by assumption,by assumption,by assumption,by assumption,by assumption,by assumption⟩))
     (first
      |(go_at_call 90;refine u.out.mono ?_;rintro e a ⟨rfl,l⟩;obtain⟨x0,x1,x2,x3,x4,x5,y2,y3,y4,y5,y6,y7,P⟩:=O.out a l)
      |(go_at_call 89;refine(a5.out _ _).mono ?_;rintro e wy ⟨rfl,rfl⟩))
    all_goals
     clear x0 x1 x2 x3 x4 x5 y2 y3 y4 y5 y6 y7;go_wp2;go_ret;exact P.out _
   ·go_enter Tryz.func53,Tryz.ntmps53
    go_upto_region 1 with fail
    rw[<-Q.out,<-R.out];clear Q R;have A:=d.out.c0;have F:=d.out.c1;have E:=d.out.c2;have D:=d.out.c3;have G:=d.out.c4;have B:=d.out.c5;dsimp only at A F E D G B;go_wp2_with fail
    refine L.out.mono ?_;rintro e j ⟨rfl,g⟩;obtain⟨U,i1,Z,i3,i4,i5,y,f⟩:=I.out j g;have a8:=hid f.drew;have u:=hid (K.out _ f.drew);have O:Hid (∀a,Below j.drew.heap.size j.drew a->a.cell? ⟨ib,0,none⟩=some (.int .i64 3)/\a.cell? ⟨ib,1,none⟩=some (.int .i64 (r:Int))/\a.cell? ⟨ib,2,none⟩=some (.int .i64 (s:Int))/\a.cell? ⟨ib,3,none⟩=some (.int .i64 H)/\a.cell? ⟨ib,4,none⟩=some (.int .i64 M)/\a.cell? ⟨ib,5,none⟩=some (.int .u64 (n:Int))/\ib<a.heap.size/\a.cell? ⟨b,r*2,none⟩=some (.int .u64 (m.rn r:Int))/\a.cell? ⟨b,r*2+1,none⟩=some (.bool (m.rs r))/\a.frozen? ⟨b,r*2,none⟩=false/\a.frozen? ⟨b,r*2+1,none⟩=false/\b<a.heap.size/\Hid (∀o,yo W b k (m.setR r V) w (.int .i64 0) (.returned (.int .i64 0)) (((a.setCell ⟨b,r*2,none⟩ (.int .u64 (V:Int))).setCell ⟨b,r*2+1,none⟩ (.bool true)).alloc o))):=fun a hb=>by
     have l:Below T.heap.size T a:=zh (zh g (zof j.heap.size j).drew) hb;obtain⟨k0,k1,k2,k3,k4,k5,kl,t⟩:=I.out a l;exact⟨k0,k1,k2,k3,k4,k5,kl,t.rn r (by omega),t.rs r (by omega),t.fz _,t.fz _,t.lt,J.out a t l⟩
    clear A F E D G B L K J g f I HM;go_wp2_with fail
    go_region_held3 (fun w'=>w'.cell? ⟨ib,0,none⟩=some (.int .i64 3)/\w'.cell? ⟨ib,1,none⟩=some (.int .i64 (r:Int))/\w'.cell? ⟨ib,2,none⟩=some (.int .i64 (s:Int))/\w'.cell? ⟨ib,3,none⟩=some (.int .i64 H)/\w'.cell? ⟨ib,4,none⟩=some (.int .i64 M)/\w'.cell? ⟨ib,5,none⟩=some (.int .u64 (n:Int)))
     (first
      |go_keep
      |(go_split_ands;with_reducible exact qG ⟨by assumption,by assumption,by assumption,by assumption,by assumption,by assumption⟩ l)
      |(go_split_ands;exact qH a6 ⟨by assumption,by assumption,by assumption,by assumption,by assumption,by assumption⟩))
     (first
      |(go_at_call 90;refine u.out.mono ?_;rintro e a ⟨rfl,l⟩;obtain⟨x0,x1,x2,x3,x4,x5,y2,y3,y4,y5,y6,y7,P⟩:=O.out a l)
      |(go_at_call 89;refine(a5.out _ _).mono ?_;rintro e wy ⟨rfl,rfl⟩))
    all_goals
     clear x0 x1 x2 x3 x4 x5 y2 y3 y4 y5 y6 y7;go_wp2;go_ret;exact P.out _
   ·go_enter Tryz.func53,Tryz.ntmps53
    go_upto_region 1 with fail
    rw[<-Q.out,<-R.out];clear Q R;have A:=d.out.c0;have F:=d.out.c1;have E:=d.out.c2;have D:=d.out.c3;have G:=d.out.c4;have B:=d.out.c5;dsimp only at A F E D G B;go_wp2_with fail
    refine L.out.mono ?_;rintro e j ⟨rfl,g⟩;obtain⟨U,i1,Z,i3,i4,i5,y,f⟩:=I.out j g;have a8:=hid f.drew;have u:=hid (K.out _ f.drew);have O:Hid (∀a,Below j.drew.heap.size j.drew a->a.cell? ⟨ib,0,none⟩=some (.int .i64 4)/\a.cell? ⟨ib,1,none⟩=some (.int .i64 (r:Int))/\a.cell? ⟨ib,2,none⟩=some (.int .i64 (s:Int))/\a.cell? ⟨ib,3,none⟩=some (.int .i64 H)/\a.cell? ⟨ib,4,none⟩=some (.int .i64 M)/\a.cell? ⟨ib,5,none⟩=some (.int .u64 (n:Int))/\ib<a.heap.size/\a.cell? ⟨b,r*2,none⟩=some (.int .u64 (m.rn r:Int))/\a.cell? ⟨b,r*2+1,none⟩=some (.bool (m.rs r))/\a.frozen? ⟨b,r*2,none⟩=false/\a.frozen? ⟨b,r*2+1,none⟩=false/\b<a.heap.size/\Hid (∀o,yo W b k (m.setR r V) w (.int .i64 0) (.returned (.int .i64 0)) (((a.setCell ⟨b,r*2,none⟩ (.int .u64 (V:Int))).setCell ⟨b,r*2+1,none⟩ (.bool true)).alloc o))):=fun a hb=>by
     have l:Below T.heap.size T a:=zh (zh g (zof j.heap.size j).drew) hb;obtain⟨k0,k1,k2,k3,k4,k5,kl,t⟩:=I.out a l;exact⟨k0,k1,k2,k3,k4,k5,kl,t.rn r (by omega),t.rs r (by omega),t.fz _,t.fz _,t.lt,J.out a t l⟩
    clear A F E D G B L K J g f I HM;go_wp2_with fail
    go_region_held3 (fun w'=>w'.cell? ⟨ib,0,none⟩=some (.int .i64 4)/\w'.cell? ⟨ib,1,none⟩=some (.int .i64 (r:Int))/\w'.cell? ⟨ib,2,none⟩=some (.int .i64 (s:Int))/\w'.cell? ⟨ib,3,none⟩=some (.int .i64 H)/\w'.cell? ⟨ib,4,none⟩=some (.int .i64 M)/\w'.cell? ⟨ib,5,none⟩=some (.int .u64 (n:Int)))
     (first
      |go_keep
      |(go_split_ands;with_reducible exact qG ⟨by assumption,by assumption,by assumption,by assumption,by assumption,by assumption⟩ l)
      |(go_split_ands;exact qH a6 ⟨by assumption,by assumption,by assumption,by assumption,by assumption,by assumption⟩))
     (first
      |(go_at_call 90;refine u.out.mono ?_;rintro e a ⟨rfl,l⟩;obtain⟨x0,x1,x2,x3,x4,x5,y2,y3,y4,y5,y6,y7,P⟩:=O.out a l)
      |(go_at_call 89;refine(a5.out _ _).mono ?_;rintro e wy ⟨rfl,rfl⟩))
    all_goals
     clear x0 x1 x2 x3 x4 x5 y2 y3 y4 y5 y6 y7;go_wp2;go_ret;exact P.out _
   ·go_enter Tryz.func53,Tryz.ntmps53
    go_upto_region 1 with fail
    rw[<-Q.out,<-R.out];clear Q R;have A:=d.out.c0;have F:=d.out.c1;have E:=d.out.c2;have D:=d.out.c3;have G:=d.out.c4;have B:=d.out.c5;dsimp only at A F E D G B;go_wp2_with fail
    refine L.out.mono ?_;rintro e j ⟨rfl,g⟩;obtain⟨U,i1,Z,i3,i4,i5,y,f⟩:=I.out j g;have a8:=hid f.drew;have u:=hid (K.out _ f.drew);have O:Hid (∀a,Below j.drew.heap.size j.drew a->a.cell? ⟨ib,0,none⟩=some (.int .i64 5)/\a.cell? ⟨ib,1,none⟩=some (.int .i64 (r:Int))/\a.cell? ⟨ib,2,none⟩=some (.int .i64 (s:Int))/\a.cell? ⟨ib,3,none⟩=some (.int .i64 H)/\a.cell? ⟨ib,4,none⟩=some (.int .i64 M)/\a.cell? ⟨ib,5,none⟩=some (.int .u64 (n:Int))/\ib<a.heap.size/\a.cell? ⟨b,r*2,none⟩=some (.int .u64 (m.rn r:Int))/\a.cell? ⟨b,r*2+1,none⟩=some (.bool (m.rs r))/\a.frozen? ⟨b,r*2,none⟩=false/\a.frozen? ⟨b,r*2+1,none⟩=false/\b<a.heap.size/\Hid (∀o,yo W b k (m.setR r V) w (.int .i64 0) (.returned (.int .i64 0)) (((a.setCell ⟨b,r*2,none⟩ (.int .u64 (V:Int))).setCell ⟨b,r*2+1,none⟩ (.bool true)).alloc o))):=fun a hb=>by
     have l:Below T.heap.size T a:=zh (zh g (zof j.heap.size j).drew) hb;obtain⟨k0,k1,k2,k3,k4,k5,kl,t⟩:=I.out a l;exact⟨k0,k1,k2,k3,k4,k5,kl,t.rn r (by omega),t.rs r (by omega),t.fz _,t.fz _,t.lt,J.out a t l⟩
    clear A F E D G B L K J g f I HM;go_wp2_with fail
    go_region_held3 (fun w'=>w'.cell? ⟨ib,0,none⟩=some (.int .i64 5)/\w'.cell? ⟨ib,1,none⟩=some (.int .i64 (r:Int))/\w'.cell? ⟨ib,2,none⟩=some (.int .i64 (s:Int))/\w'.cell? ⟨ib,3,none⟩=some (.int .i64 H)/\w'.cell? ⟨ib,4,none⟩=some (.int .i64 M)/\w'.cell? ⟨ib,5,none⟩=some (.int .u64 (n:Int)))
     (first
      |go_keep
      |(go_split_ands;with_reducible exact qG ⟨by assumption,by assumption,by assumption,by assumption,by assumption,by assumption⟩ l)
      |(go_split_ands;exact qH a6 ⟨by assumption,by assumption,by assumption,by assumption,by assumption,by assumption⟩))
     (first
      |(go_at_call 90;refine u.out.mono ?_;rintro e a ⟨rfl,l⟩;obtain⟨x0,x1,x2,x3,x4,x5,y2,y3,y4,y5,y6,y7,P⟩:=O.out a l)
      |(go_at_call 89;refine(a5.out _ _).mono ?_;rintro e wy ⟨rfl,rfl⟩))
    all_goals
     clear x0 x1 x2 x3 x4 x5 y2 y3 y4 y5 y6 y7;go_wp2;go_ret;exact P.out _
   ·go_enter Tryz.func53,Tryz.ntmps53
    go_upto_region 1 with fail
    rw[<-Q.out,<-R.out];clear Q R;have A:=d.out.c0;have F:=d.out.c1;have E:=d.out.c2;have D:=d.out.c3;have G:=d.out.c4;have B:=d.out.c5;dsimp only at A F E D G B;go_wp2_with fail
    refine L.out.mono ?_;rintro e j ⟨rfl,g⟩;obtain⟨U,i1,Z,i3,i4,i5,y,f⟩:=I.out j g;have a8:=hid f.drew;have u:=hid (K.out _ f.drew);have O:Hid (∀a,Below j.drew.heap.size j.drew a->a.cell? ⟨ib,0,none⟩=some (.int .i64 7)/\a.cell? ⟨ib,1,none⟩=some (.int .i64 (r:Int))/\a.cell? ⟨ib,2,none⟩=some (.int .i64 (s:Int))/\a.cell? ⟨ib,3,none⟩=some (.int .i64 H)/\a.cell? ⟨ib,4,none⟩=some (.int .i64 M)/\a.cell? ⟨ib,5,none⟩=some (.int .u64 (n:Int))/\ib<a.heap.size/\a.cell? ⟨b,r*2,none⟩=some (.int .u64 (m.rn r:Int))/\a.cell? ⟨b,r*2+1,none⟩=some (.bool (m.rs r))/\a.frozen? ⟨b,r*2,none⟩=false/\a.frozen? ⟨b,r*2+1,none⟩=false/\b<a.heap.size/\Hid (∀o,yo W b k (m.setR r V) w (.int .i64 0) (.returned (.int .i64 0)) (((a.setCell ⟨b,r*2,none⟩ (.int .u64 (V:Int))).setCell ⟨b,r*2+1,none⟩ (.bool true)).alloc o))):=fun a hb=>by
     have l:Below T.heap.size T a:=zh (zh g (zof j.heap.size j).drew) hb;obtain⟨k0,k1,k2,k3,k4,k5,kl,t⟩:=I.out a l;exact⟨k0,k1,k2,k3,k4,k5,kl,t.rn r (by omega),t.rs r (by omega),t.fz _,t.fz _,t.lt,J.out a t l⟩
    clear A F E D G B L K J g f I HM;go_wp2_with fail
    go_region_held3 (fun w'=>w'.cell? ⟨ib,0,none⟩=some (.int .i64 7)/\w'.cell? ⟨ib,1,none⟩=some (.int .i64 (r:Int))/\w'.cell? ⟨ib,2,none⟩=some (.int .i64 (s:Int))/\w'.cell? ⟨ib,3,none⟩=some (.int .i64 H)/\w'.cell? ⟨ib,4,none⟩=some (.int .i64 M)/\w'.cell? ⟨ib,5,none⟩=some (.int .u64 (n:Int)))
     (first
      |go_keep
      |(go_split_ands;with_reducible exact qG ⟨by assumption,by assumption,by assumption,by assumption,by assumption,by assumption⟩ l)
      |(go_split_ands;exact qH a6 ⟨by assumption,by assumption,by assumption,by assumption,by assumption,by assumption⟩))
     (first
      |(go_at_call 90;refine u.out.mono ?_;rintro e a ⟨rfl,l⟩;obtain⟨x0,x1,x2,x3,x4,x5,y2,y3,y4,y5,y6,y7,P⟩:=O.out a l)
      |(go_at_call 89;refine(a5.out _ _).mono ?_;rintro e wy ⟨rfl,rfl⟩))
    all_goals
     clear x0 x1 x2 x3 x4 x5 y2 y3 y4 y5 y6 y7;go_wp2;go_ret;exact P.out _
   ·go_enter Tryz.func53,Tryz.ntmps53
    go_upto_region 1 with fail
    rw[<-Q.out,<-R.out];clear Q R;have A:=d.out.c0;have F:=d.out.c1;have E:=d.out.c2;have D:=d.out.c3;have G:=d.out.c4;have B:=d.out.c5;dsimp only at A F E D G B;go_wp2_with fail
    refine L.out.mono ?_;rintro e j ⟨rfl,g⟩;obtain⟨U,i1,Z,i3,i4,i5,y,f⟩:=I.out j g;have a8:=hid f.drew;have u:=hid (K.out _ f.drew);have O:Hid (∀a,Below j.drew.heap.size j.drew a->a.cell? ⟨ib,0,none⟩=some (.int .i64 18)/\a.cell? ⟨ib,1,none⟩=some (.int .i64 (r:Int))/\a.cell? ⟨ib,2,none⟩=some (.int .i64 (s:Int))/\a.cell? ⟨ib,3,none⟩=some (.int .i64 H)/\a.cell? ⟨ib,4,none⟩=some (.int .i64 M)/\a.cell? ⟨ib,5,none⟩=some (.int .u64 (n:Int))/\ib<a.heap.size/\a.cell? ⟨b,r*2,none⟩=some (.int .u64 (m.rn r:Int))/\a.cell? ⟨b,r*2+1,none⟩=some (.bool (m.rs r))/\a.frozen? ⟨b,r*2,none⟩=false/\a.frozen? ⟨b,r*2+1,none⟩=false/\b<a.heap.size/\Hid (∀o,yo W b k (m.setR r V) w (.int .i64 0) (.returned (.int .i64 0)) (((a.setCell ⟨b,r*2,none⟩ (.int .u64 (V:Int))).setCell ⟨b,r*2+1,none⟩ (.bool true)).alloc o))):=fun a hb=>by
     have l:Below T.heap.size T a:=zh (zh g (zof j.heap.size j).drew) hb;obtain⟨k0,k1,k2,k3,k4,k5,kl,t⟩:=I.out a l;exact⟨k0,k1,k2,k3,k4,k5,kl,t.rn r (by omega),t.rs r (by omega),t.fz _,t.fz _,t.lt,J.out a t l⟩
    clear A F E D G B L K J g f I HM;go_wp2_with fail
    go_region_held3 (fun w'=>w'.cell? ⟨ib,0,none⟩=some (.int .i64 18)/\w'.cell? ⟨ib,1,none⟩=some (.int .i64 (r:Int))/\w'.cell? ⟨ib,2,none⟩=some (.int .i64 (s:Int))/\w'.cell? ⟨ib,3,none⟩=some (.int .i64 H)/\w'.cell? ⟨ib,4,none⟩=some (.int .i64 M)/\w'.cell? ⟨ib,5,none⟩=some (.int .u64 (n:Int)))
     (first
      |go_keep
      |(go_split_ands;with_reducible exact qG ⟨by assumption,by assumption,by assumption,by assumption,by assumption,by assumption⟩ l)
      |(go_split_ands;exact qH a6 ⟨by assumption,by assumption,by assumption,by assumption,by assumption,by assumption⟩))
     (first
      |(go_at_call 90;refine u.out.mono ?_;rintro e a ⟨rfl,l⟩;obtain⟨x0,x1,x2,x3,x4,x5,y2,y3,y4,y5,y6,y7,P⟩:=O.out a l)
      |(go_at_call 89;refine(a5.out _ _).mono ?_;rintro e wy ⟨rfl,rfl⟩))
    all_goals
     clear x0 x1 x2 x3 x4 x5 y2 y3 y4 y5 y6 y7;go_wp2;go_ret;exact P.out _
  ·rw[if_neg q1]at N;by_cases q8:op=8
   ·rw[if_pos q8]at N;subst N;subst q8;dsimp only;have c6:=hn (.inr rfl);have d3:(n:Int)<96:=by omega
    clear h hk a2 a3 U i1 Z i3 i4 i5 y q1 hn;go_enter Tryz.func53,Tryz.ntmps53
    go_upto_region 1 with fail
    rw[<-Q.out,<-R.out];clear Q R;have A:=d.out.c0;have F:=d.out.c1;have E:=d.out.c2;have D:=d.out.c3;have G:=d.out.c4;have B:=d.out.c5;dsimp only at A F E D G B;go_wp2_with fail
    refine L.out.mono ?_;rintro e j ⟨rfl,g⟩;obtain⟨U,i1,Z,i3,i4,i5,y,f⟩:=I.out j g;have a0:=hid (zh HB.out g);clear A F E D G B L;have r0:=f.rn r (by omega)
    have r1:=f.rs r (by omega)
    have s0:=f.sn n (by omega)
    have s1:=f.ss n (by omega)
    have z0:=f.fz (20+n*2);have z1:=f.fz (20+n*2+1);have d1:=f.lt;have HD:Hid (yo W b k (m.setS n (m.rn r) (m.rs r)) w (.int .i64 0) (.returned (.int .i64 0)) (((j.setCell ⟨b,20+n*2,none⟩ (.int .u64 (m.rn r:Int))).setCell ⟨b,20+n*2+1,none⟩ (.bool (m.rs r)))).drew):=⟨rfl,(f.putS (by omega) (f.ok.1 r)).drew,(GFram.below a0.out).trans (((GFram.put _ _).trans (GFram.put _ _)).trans (GFram.below (zof _ _).drew))⟩
    clear g f I HM c6;generalize m.rn r=X at*;generalize m.rs r=Y at*;go_wp2_with fail
    go_region_law (fail)
    all_goals
     go_wp2;go_ret;exact HD.out
   rw[if_neg q8]at N;by_cases q6:op=6
   ·rw[if_pos q6]at N;have hL:Hid (∀j,VMAt W b k m j->Calls Tryz.prog 91 #[kQ b,.agg #[.int .i64 op,.int .i64 (r:Int),.int .i64 (s:Int),.int .i64 H,.int .i64 M,.int .u64 (n:Int)]] j (yo W b k S.2 j (.int .i64 S.1))):=fun j h2=>by
     have b6:=a2 q6;have:=znN h2 hk.has hk.few hk.cap ⟨op,r,s,H,M,n⟩ hr b0 ⟨by show(0:Int)<=(n:Int);omega,b6.2.2⟩ ⟨b6.1,b6.2.1⟩
     dsimp only at this;rw[zov,zov,zov]at this;rw[<-N];split
     ·rename_i hq
      rw[if_pos hq,if_pos hq]at this;exact this
     ·rename_i hq
      rw[if_neg hq,if_neg hq]at this;exact this
    subst q6;clear h hk a2 a3 U i1 Z i3 i4 i5 y q1 hn q8 N;obtain⟨c,m'⟩:=S;dsimp only at hL ⊢;go_enter Tryz.func53,Tryz.ntmps53
    go_upto_region 1 with fail
    rw[<-Q.out,<-R.out];clear Q R;have A:=d.out.c0;have F:=d.out.c1;have E:=d.out.c2;have D:=d.out.c3;have G:=d.out.c4;have B:=d.out.c5;dsimp only at A F E D G B;go_wp2_with fail
    refine L.out.mono ?_;rintro e j ⟨rfl,g⟩;obtain⟨U,i1,Z,i3,i4,i5,y,f⟩:=I.out j g;have a0:=hid (zh HB.out g);clear A F E D G B L;have a9:=hid (hL.out _ f);clear hL g f I HM;go_wp2_with fail
    refine a9.out.mono ?_;rintro e w3 ⟨rfl,a4,a1⟩;have HD:Hid (yo W b k m' w (.int .i64 c) (.returned (.int .i64 c)) w3):=⟨rfl,a4,(GFram.below a0.out).trans a1⟩;clear a4 a1 a9;go_wp2;go_ret;exact HD.out
   rw[if_neg q6,if_neg b5]at N;have b3:Hid (∀j,VMAt W b k m j->Calls Tryz.prog 94 #[kQ b,.int .i64 (r:Int)] j fun e w'=>e=.returned (.int .u64 (m.rn r:Int))/\w'=j):=fun j h2=>zgk h2 (by omega)
   by_cases a7:op=14
   ·rw[if_pos a7]at N;have c9:=a3 a7;obtain⟨H,rfl⟩:∃i:Nat,H=i:=⟨H.toNat,by omega⟩
    rw[zov]at N;have hP:Hid (∀j,VMAt W b k m j->Calls Tryz.prog 93 #[kQ b,.int .u64 (m.rn r:Int),.int .i64 (H:Int)] j (yo W b k (m.send (kP (m.rn r) H)) j (.tuple #[]))):=fun j h2=>zn9 h2 _ H (by omega) hs
    subst N;subst a7;clear h hk a2 a3 U i1 Z i3 i4 i5 y q1 hn q8 q6;dsimp only;generalize m.send (kP (m.rn r) H)=m' at*;go_enter Tryz.func53,Tryz.ntmps53
    go_upto_region 1 with fail
    rw[<-Q.out,<-R.out];clear Q R;have A:=d.out.c0;have F:=d.out.c1;have E:=d.out.c2;have D:=d.out.c3;have G:=d.out.c4;have B:=d.out.c5;dsimp only at A F E D G B;go_wp2_with fail
    refine L.out.mono ?_;rintro e j ⟨rfl,g⟩;obtain⟨U,i1,Z,i3,i4,i5,y,f⟩:=I.out j g;have a0:=hid (zh HB.out g);clear A F E D G B L;have b8:=hid (hP.out _ f.drew);have b2:=hid (b3.out _ f.drew);generalize m.rn r=X at*;have d0:Hid (IBox ⟨14,r,s,H,M,n⟩ j ib):=⟨U,i1,Z,i3,i4,i5⟩;clear hP b3 g f I HM;go_wp2_with fail
    go_region_with (first
     |(go_at_call 94;refine b2.out.mono ?_;rintro e a ⟨rfl,rfl⟩)
     |(go_at_call 93;refine b8.out.mono ?_;rintro e a ⟨rfl,a4,a1⟩))
    all_goals
     have HD:Hid (yo W b k m' w (.int .i64 0) (.returned (.int .i64 0)) a):=⟨rfl,a4,(GFram.below (zh a0.out (zof j.heap.size j).drew)).trans a1⟩;clear a4 a1 b8;go_wp2;go_ret;exact HD.out
   rw[if_neg a7]at N;by_cases b4:op=15
   ·rw[if_pos b4]at N;have hL:Hid (∀j,VMAt W b k m j->Calls Tryz.prog 95 #[kQ b,.int .u64 (m.rn r:Int)] j (yo W b k S.2 j (.int .i64 S.1))):=fun j h2=>by
     have:=znQ h2 hk.has hk.nil hk.few hk.cap (m.rn r) (h2.ok.1 r) hs;rw[<-N];split
     ·rename_i hq
      rw[if_pos hq,if_pos hq]at this;exact this
     ·rename_i hq
      rw[if_neg hq,if_neg hq]at this;exact this
    subst b4;clear h hk a2 a3 U i1 Z i3 i4 i5 y q1 hn q8 q6 a7 N;obtain⟨c,m'⟩:=S;dsimp only at hL ⊢;go_enter Tryz.func53,Tryz.ntmps53
    go_upto_region 1 with fail
    rw[<-Q.out,<-R.out];clear Q R;have A:=d.out.c0;have F:=d.out.c1;have E:=d.out.c2;have D:=d.out.c3;have G:=d.out.c4;have B:=d.out.c5;dsimp only at A F E D G B;go_wp2_with fail
    refine L.out.mono ?_;rintro e j ⟨rfl,g⟩;obtain⟨U,i1,Z,i3,i4,i5,y,f⟩:=I.out j g;have a0:=hid (zh HB.out g);clear A F E D G B L;have a9:=hid (hL.out _ f);have b2:=hid (b3.out _ f);generalize m.rn r=X at*;clear hL g f I HM b3;go_wp2_with fail
    refine b2.out.mono ?_;rintro e w3 ⟨rfl,rfl⟩;go_wp2_with fail
    refine a9.out.mono ?_;rintro e w3 ⟨rfl,a4,a1⟩;have HD:Hid (yo W b k m' w (.int .i64 c) (.returned (.int .i64 c)) w3):=⟨rfl,a4,(GFram.below a0.out).trans a1⟩;clear a4 a1 a9;go_wp2;go_ret;exact HD.out
   rw[if_neg b4]at N;subst N;have q:op=9\/op=10\/op=11\/op=12\/op=16\/op=17:=by omega
   dsimp only;clear h hk a2 a3 U i1 Z i3 i4 i5 y q1 hn q8 q6 a7 b4 b3;rcases q with rfl|rfl|rfl|rfl|rfl|rfl
   all_goals
    go_enter Tryz.func53,Tryz.ntmps53
    go_upto_region 1 with fail
    rw[<-Q.out,<-R.out];clear Q R;have A:=d.out.c0;have F:=d.out.c1;have E:=d.out.c2;have D:=d.out.c3;have G:=d.out.c4;have B:=d.out.c5;dsimp only at A F E D G B;go_wp2_with fail
    refine L.out.mono ?_;rintro e j ⟨rfl,g⟩;obtain⟨U,i1,Z,i3,i4,i5,y,f⟩:=I.out j g;have a0:=hid (zh HB.out g);clear A F E D G B L;have HD:Hid (yo W b k m w (.int .i64 0) (.returned (.int .i64 0)) j):=⟨rfl,f,GFram.below a0.out⟩;clear g f I HM;go_wp2;go_ret;exact HD.out
end Go.Proofs.YtdajaaondlekfaaGreat
