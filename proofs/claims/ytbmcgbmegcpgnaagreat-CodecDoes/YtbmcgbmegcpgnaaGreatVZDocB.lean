import Derived.Test.YtbmcgbmegcpgnaaGreatVZLen
import Derived.Laws.AppendOwnNone
set_option maxHeartbeats 4000000
set_option maxRecDepth 20000
set_option linter.unusedSimpArgs false
namespace Go.Proofs.YtbmcgbmegcpgnaaGreat
open Go.RowKit
def OwB(B:Nat)(a:Option Addr)(n c:Nat)(bs:List Int)(w:World):Prop:=bs.length=n/\w.ownsRow B 5 1 (.slice a n c) n (BB bs)
theorem OwB.row{B:Nat}{a:Option Addr}{n c:Nat}{bs:List Int}{w:World}(h:OwB B a n c bs w):RowB B (.slice a bs.length c) bs w:=.inl (by rw[h.1];exact h.2)
theorem OwB.step{B:Nat}{a:Option Addr}{n c:Nat}{bs:List Int}{w w':World}(h:OwB B a n c bs w)(hb:Below w.heap.size w w'):OwB B a n c bs w':=
 ⟨h.1,h.2.kept (row:=none) ⟨hb.os,hb.tape,hb.output,hb.size,fun k b _=>hb.block k b⟩ (by cases (Value.slice a n c).ownBlock<;>simp)⟩
theorem OwB.nil(B:Nat)(w:World):OwB B none 0 0 [] w:=⟨rfl,zoH _ _ _ _⟩
theorem OwB.has{B:Nat}{a:Option Addr}{n c:Nat}{bs:List Int}{w:World}(h:OwB B a n c bs w)(hb:Mth.Byt bs):Has .u8 w a n bs:=by
 have:=h.row.has hb;rwa[h.1]at this
theorem OwB.far{B d:Nat}{a:Option Addr}{n c:Nat}{bs:List Int}{w:World}(h:OwB B a n c bs w)(i:d<=B):OwB d a n c bs w:=⟨h.1,h.2.1,h.2.2.imp id (by
 rintro⟨g,c,b,e,f,r⟩;exact⟨g,c,b,e,zoz i f,r⟩)⟩
theorem RowB.put{B:Nat}{a:Option Addr}{n c:Nat}{bs:List Int}{w:World}(h:RowB B (.slice a bs.length c) bs w)(t:bs.length=n){ad:Option Addr}{m c2:Nat}{zs:List Int}(hz:Has .u8 w ad m zs)(j:0<m)(hs:n+m<=9000000)(l:B<=w.heap.size):
 ∃i o f,(Builtin.append_ #[30,30] 30 #[.slice a n c,.slice ad m c2]).run Tryz.prog w=.ok (.slice i (n+m) o) f/\OwB B i (n+m) o (bs++zs) f/\Below B w f:=by
 subst t;have d:=hz;obtain⟨b,off,rfl,_,_⟩:=hz.some j;obtain⟨g,cap,f,e,q,s⟩:=h.app (ad:=⟨b,off,none⟩) (m:=m) (c2:=c2) (zs:=zs) d.1 (zht d) j (by omega) l
 exact⟨_,cap,f,e,⟨by rw[List.length_append,d.1],q⟩,(zof _ _).grown s l fun k r=>(h.blk r).1⟩
theorem OwB.more{B:Nat}{a:Option Addr}{n c:Nat}{bs:List Int}{w:World}(h:OwB B a n c bs w){ad:Option Addr}{m c2:Nat}{zs:List Int}(hz:Has .u8 w ad m zs)(g:m=0->ad=none/\c2=0)(hs:n+m<=9000000)(i:B<=w.heap.size):
 ∃d f b,(Builtin.append_ #[30,30] 30 #[.slice a n c,.slice ad m c2]).run Tryz.prog w=.ok (.slice d (n+m) f) b/\OwB B d (n+m) f (bs++zs) b/\Below B w b:=by
 rcases Nat.eq_zero_or_pos m with e|e
 ·obtain⟨rfl,rfl⟩:=g e;subst e;obtain rfl:zs=[]:=List.length_eq_zero_iff.1 hz.1;obtain⟨j,hi,-⟩:=info_parts Tryz.info5;rw[List.append_nil];exact⟨a,c,w,run_append_owned_none w B 30 30 5 j 1 Tryz.underlying30 hi _ n _ h.2,h,zof _ _⟩
 ·exact h.row.put h.1 hz e hs i
theorem OwB.one{B:Nat}{a:Option Addr}{n c:Nat}{bs:List Int}{w:World}(h:OwB B a n c bs w)(x:Int)(o:0<=x/\x<256)(hs:n+1<=9000000)(k:B<=w.heap.size):
 ∃f g d,(Builtin.append_ #[30,30] 30 #[.slice a n c,.slice (some ⟨w.heap.size,0,none⟩) 1 1]).run Tryz.prog (w.alloc (.cells #[.int .u8 x] 5))=.ok (.slice f (n+1) g) d/\OwB B f (n+1) g (bs++[x]) d/\Below B w d:=by
 have j:Below w.heap.size w (w.alloc (.cells #[.int .u8 x] 5)):=ze (zof _ _);have hz:Has .u8 (w.alloc (.cells #[.int .u8 x] 5)) (some ⟨w.heap.size,0,none⟩) 1 [x]:=by
  refine⟨rfl,fun y l=>?_,.inr ⟨w.heap.size,0,rfl,by simp,fun i hi=>?_⟩⟩
  ·rw[List.mem_singleton.1 l];exact zi6 x o
  ·obtain rfl:i=0:=by omega
   simp
 obtain⟨f,g,d,b,m,hb⟩:=(h.step j).more (c2:=1) hz (fun e=>by cases e) hs (zoz k j.size)
 exact⟨f,g,d,b,m,(j.mono k).trans hb⟩
def BIs(L:List Int)(w:World)(e:Ending)(w':World):Prop:=∃a c,e=.returned (.slice a L.length c)/\OwB w.heap.size a L.length c L w'/\(L.length=0->a=none/\c=0)/\Below w.heap.size w w'
theorem zql(n:Nat):0<(y8 n).length:=by
 by_cases h:n<128
 ·rw[zpE h];simp
 ·rw[zpU h];simp
theorem zsa(n:Nat)(w:World)(s:n<18446744073709551616):Calls Tryz.prog 83 #[.int .u64 n] w (BIs (y8 n) w):=by
 have L:=hid (zpm s);go_enter Tryz.func83,Tryz.ntmps83
 go_wp2;go_loopw [0,3] (fun q v wr=>∃(m:Nat) (cs:List Int) (l:Nat) (a:Option Addr) (c:Nat),q=.int .u64 m/\v=.slice a l c/\Hid (m<18446744073709551616)/\Hid (cs++y8 m=y8 n)/\Hid (OwB w.heap.size a l c cs wr)/\Hid (Below w.heap.size w wr)) (fun q _ _=>(intOf q).toNat)
 case atStart=>exact⟨n,[],0,none,0,rfl,rfl,s,rfl,OwB.nil _ _,zof _ _⟩
 case round=>
  obtain⟨m,cs,l,a,c,rfl,rfl,C,i,f,g⟩:=hrel;have C:=C.out;have U:l<=10:=by
   have I:=congrArg List.length i.out;have O:=L.out;have T:=f.out.1;rw[List.length_append]at I;omega
  have d:=g.out.size;by_cases k:m<128
  ·have K:¬(128:Int)<=(m:Int):=by omega
   obtain⟨t,o,A,b,j,hb⟩:=f.out.one (m:Int) (by omega) (by omega) d
   have x:IntKind.u8.wrap (m:Int)=(m:Int):=by rw[zqs,Nat.mod_eq_of_lt (by omega)]
   have D:Hid (BIs (y8 n) w (.returned (.slice t (l+1) o)) A):=by
    have e:=i.out;rw[zpE k]at e;have B:(y8 n).length=l+1:=by rw[<-e,List.length_append,f.out.1];rfl
    refine⟨t,o,by rw[B],by rw[B,<-e];exact j,fun h=>by omega,g.out.trans hb⟩
   clear j hb i f g s d;go_wp2_with (at_builtin;refine yg rfl _ _ rfl rfl rfl b ?_)
   go_ret;exact D.out
  ·have K:(128:Int)<=(m:Int):=by omega
   obtain⟨t,o,A,b,j,hb⟩:=f.out.one ((m%128+128:Nat):Int) (by omega) (by omega) d
   have u:IntKind.u8.wrap ((m%128+128:Nat):Int)=((m%128+128:Nat):Int):=by rw[zqs,show(m%128+128)%256=m%128+128 by omega]
   have x:IntKind.u8.wrap (((m%128:Nat):Int)+128)=((m%128+128:Nat):Int):=by rw[show(((m%128:Nat):Int)+128)=((m%128+128:Nat):Int)by omega];exact u
   have N:(m:Int).tmod 128=((m%128:Nat):Int):=by rw[Int.tmod_eq_emod_of_nonneg (by omega)];simp
   have R:(m:Int)%128=((m%128:Nat):Int):=by simp
   have Q:IntKind.u64.wrap (((m%128:Nat):Int)+128)=((m%128:Nat):Int)+128:=by rw[IntKind.wrap_u64];omega
   have P:(m:Int).tdiv 128=((m/128:Nat):Int):=by rw[Int.tdiv_eq_ediv_of_nonneg (by omega)];simp
   have S:(m:Int)/128=((m/128:Nat):Int):=by simp
   have G:Hid ((cs++[((m%128+128:Nat):Int)])++y8 (m/128)=y8 n):=by
    show _=_;rw[<-i.out,zpU k];simp
   have M:=hid j;have F:=hid (g.out.trans hb);have y:m/128<18446744073709551616:=by omega
   have H:m/128<m:=by omega
   generalize E:m%128=r at*;generalize J:m/128=q at*;clear E J j hb i f g s d;go_wp2_with (at_builtin;refine yg rfl _ _ rfl rfl rfl b ?_)
   go_roundw
   case rel=>exact⟨q,_,l+1,t,o,rfl,rfl,y,G,M,F⟩
   case measure=>simp[intOf];omega
theorem zpt(n:Int)(w:World)(i:wfI n):Calls Tryz.prog 39 #[.int .i64 n] w (BIs (zk n) w):=by
 have hb:=bounds_i64 i;have l:=hid (zsa (zpW n) w (zrJ i));have h:((zpW n:Nat):Int)=if n<0 then -2*n-1 else 2*n:=by unfold zpW;split<;>omega
 unfold zk;by_cases m:n<0
 ·rw[if_pos m]at h;have s:IntKind.i64.wrap (n+1)=n+1:=by rw[IntKind.wrap_i64];omega
  have t:IntKind.i64.wrap (-(n+1))= -(n+1):=by rw[IntKind.wrap_i64];omega
  have o:IntKind.u64.wrap (-(n+1))= -(n+1):=by rw[IntKind.wrap_u64];omega
  have r:IntKind.u64.wrap (-(n+1)*2)= -(n+1)*2:=by rw[IntKind.wrap_u64];omega
  have q:IntKind.u64.wrap (-(n+1)*2+1)=(zpW n:Int):=by rw[IntKind.wrap_u64];omega
  generalize zpW n=f at*;clear h i hb;go_enter Tryz.func39,Tryz.ntmps39
  go_wp2_with fail
  refine l.out.mono ?_;rintro e k ⟨a,c,rfl,g,d,b⟩;have j:Hid (BIs (y8 f) w (.returned (.slice a (y8 f).length c)) k):=⟨a,c,rfl,g,d,b⟩;generalize y8 f=L at*;clear g d b;go_wp2;go_ret;exact j.out
 ·rw[if_neg m]at h;have o:IntKind.u64.wrap n=n:=by rw[IntKind.wrap_u64];omega
  have q:IntKind.u64.wrap (n*2)=(zpW n:Int):=by rw[IntKind.wrap_u64];omega
  generalize zpW n=f at*;clear h i hb;go_enter Tryz.func39,Tryz.ntmps39
  go_wp2_with fail
  refine l.out.mono ?_;rintro e k ⟨a,c,rfl,g,d,b⟩;have j:Hid (BIs (y8 f) w (.returned (.slice a (y8 f).length c)) k):=⟨a,c,rfl,g,d,b⟩;generalize y8 f=L at*;clear g d b;go_wp2;go_ret;exact j.out
theorem zqm(K:Option Addr)(n c0:Nat)(zs:List Int)(w:World)(hz:Has .i64 w K n zs)(hn:n<=100000):Calls Tryz.prog 41 #[.slice K n c0] w (BIs (zs.flatMap zk) w):=by
 have F:=hid hz;have U:=hz.1;clear hz;go_enter Tryz.func41,Tryz.ntmps41
 go_wp2;go_loopw [3,4] (fun v q wr=>∃(i l:Nat) (a:Option Addr) (c:Nat),i<=n/\q=.int .i64 i/\v=.slice a l c/\Hid (OwB w.heap.size a l c ((zs.take i).flatMap zk) wr)/\Hid (l=0->a=none/\c=0)/\Hid (Below w.heap.size w wr)) (fun _ q _=>n-(intOf q).toNat)
 case atStart=>exact⟨0,0,none,0,zon _,rfl,rfl,OwB.nil _ _,fun _=>⟨rfl,rfl⟩,zof _ _⟩
 case round=>
  obtain⟨i,l,a,c,hi,rfl,rfl,A,H0,g⟩:=hrel;by_cases I:i<n
  ·have H:(i:Int)<(n:Int):=by omega
   have C:zs[i]?=some (zs[i]'(by omega)):=zoh _
   have d:=F.out.2.1 _ (zol C);obtain⟨b,off,rfl,_,m⟩:=(F.out.step g.out).some (by omega)
   have s:=m i I;rw[zoi,C,zoC]at s;have o:Hid (l<=i*10):=by
    show l<=i*10;rw[<-A.out.1];have:=zpa (f:=zk) (b:=10) (L:=zs.take i) (fun y W=>kd (F.out.2.1 y (List.mem_of_mem_take W)))
    rw[List.length_take]at this;have D:min i zs.length=i:=by omega
    rw[D]at this;exact this
   have P:(zs.take (i+1)).flatMap zk=(zs.take i).flatMap zk++zk (zs[i]'(by omega)):=by rw[zoI,C,List.flatMap_append,Option.toList_some,zvw,List.flatMap_nil,List.append_nil]
   have N:=hid P;clear P;clear C m;generalize zs[i]'(by omega)=x at*
   have u:wfI x:=d;have j:=hid d;have M:=hid (zpt x wr u);clear d u;go_wp2_with fail
   refine M.out.mono ?_;rintro e Y ⟨Z,c1,rfl,O,D,E⟩;have G:=o.out;have r:=show 0<(zk x).length from zql _
   have B:=kd (j.out:wfI x);obtain⟨J,c2,R,t,Q,hb⟩:=(A.out.step E).more (c2:=c1) (O.has (yv _)) D (by omega) (zoz g.out.size E.size)
   have X:Hid (OwB w.heap.size J (l+(zk x).length) c2 ((zs.take (i+1)).flatMap zk) R):=by show OwB _ _ _ _ _ _;rw[N.out];exact Q
   have T:=hid ((g.out.trans (E.mono g.out.size)).trans hb);have V:Hid (l+(zk x).length=0->J=none/\c2=0):=fun h=>by omega
   generalize(zk x).length=k at*;clear Q hb O D E A g H0 M s j N o G B r;go_wp2_with (at_builtin;refine yg rfl _ _ rfl rfl rfl t ?_)
   go_roundw
   case rel=>exact⟨i+1,l+k,J,c2,by omega,by go_num,rfl,X,V,T⟩
   case measure=>simp[intOf];omega
  ·have H:¬(i:Int)<(n:Int):=by omega
   have S:Hid (BIs (zs.flatMap zk) w (.returned (.slice a l c)) wr):=by
    have h:=A.out;rw[List.take_of_length_le (by omega)]at h
    refine⟨a,c,by rw[h.1],by rw[h.1];exact h,fun e=>H0.out (by rw[<-h.1];exact e),g.out⟩
   clear A H0 g;go_wp2;go_ret;exact S.out
theorem zsw(P:Option Addr)(n c0:Nat)(zs:List Int)(w:World)(hz:Has .u64 w P n zs)(hn:n<=100000):Calls Tryz.prog 42 #[.slice P n c0] w (BIs (zs.flatMap (fun z:Int=>y8 z.toNat)) w):=by
 have H:=hid hz;have W:=hz.1;clear hz;go_enter Tryz.func42,Tryz.ntmps42
 go_wp2;go_loopw [3,4] (fun v q wr=>∃(i l:Nat) (a:Option Addr) (c:Nat),i<=n/\q=.int .i64 i/\v=.slice a l c/\Hid (OwB w.heap.size a l c ((zs.take i).flatMap (fun z:Int=>y8 z.toNat)) wr)/\Hid (l=0->a=none/\c=0)/\Hid (Below w.heap.size w wr)) (fun _ q _=>n-(intOf q).toNat)
 case atStart=>exact⟨0,0,none,0,zon _,rfl,rfl,OwB.nil _ _,fun _=>⟨rfl,rfl⟩,zof _ _⟩
 case round=>
  obtain⟨i,l,a,c,hi,rfl,rfl,B,H0,g⟩:=hrel;by_cases N:i<n
  ·have M:(i:Int)<(n:Int):=by omega
   have D:zs[i]?=some (zs[i]'(by omega)):=zoh _
   have d:=H.out.2.1 _ (zol D);obtain⟨b,off,rfl,_,o⟩:=(H.out.step g.out).some (by omega)
   have u:=o i N;rw[zoi,D,zoC]at u;have r:Hid (l<=i*10):=by
    show l<=i*10;rw[<-B.out.1];have:=zpa (f:=(fun z:Int=>y8 z.toNat)) (b:=10) (L:=zs.take i) (fun y Y=>zpm (by have:=bounds_u64 (H.out.2.1 y (List.mem_of_mem_take Y));omega))
    rw[List.length_take]at this;have E:min i zs.length=i:=by omega
    rw[E]at this;exact this
   have j:(zs.take (i+1)).flatMap (fun z:Int=>y8 z.toNat)=(zs.take i).flatMap (fun z:Int=>y8 z.toNat)++(fun z:Int=>y8 z.toNat) (zs[i]'(by omega)):=by rw[zoI,D,List.flatMap_append,Option.toList_some,zvw,List.flatMap_nil,List.append_nil]
   have t:=hid j;clear j;clear D o;generalize zs[i]'(by omega)=x at*
   have K:=bounds_u64 d;obtain⟨y,rfl⟩:∃y:Nat,x=y:=⟨x.toNat,by omega⟩
   have j:=t.out;simp only[zov]at j;clear t;have t:=hid j;clear j;have I:=hid d;have Q:=hid (zsa y wr (by omega))
   have m:y<18446744073709551616:=by omega
   have G:=hid m;clear d K m;go_wp2_with fail
   refine Q.out.mono ?_;rintro e w1 ⟨a1,c1,rfl,R,E,F⟩;have J:=r.out;have s:=zql y;have C:=zpm (n:=y) G.out;obtain⟨O,c2,T,A,S,hb⟩:=(B.out.step F).more (c2:=c1) (R.has (yv _)) E (by omega) (zoz g.out.size F.size)
   have Z:Hid (OwB w.heap.size O (l+(y8 y).length) c2 ((zs.take (i+1)).flatMap (fun z:Int=>y8 z.toNat)) T):=by show OwB _ _ _ _ _ _;rw[t.out];exact S
   have V:=hid ((g.out.trans (F.mono g.out.size)).trans hb);have X:Hid (l+(y8 y).length=0->O=none/\c2=0):=fun h=>by omega
   generalize(y8 y).length=k at*;clear S hb R E F B g H0 Q u I t r J C s;go_wp2_with (at_builtin;refine yg rfl _ _ rfl rfl rfl A ?_)
   go_roundw
   case rel=>exact⟨i+1,l+k,O,c2,by omega,by go_num,rfl,Z,X,V⟩
   case measure=>simp[intOf];omega
  ·have M:¬(i:Int)<(n:Int):=by omega
   have U:Hid (BIs (zs.flatMap (fun z:Int=>y8 z.toNat)) w (.returned (.slice a l c)) wr):=by
    have h:=B.out;rw[List.take_of_length_le (by omega)]at h
    refine⟨a,c,by rw[h.1],by rw[h.1];exact h,fun e=>H0.out (by rw[<-h.1];exact e),g.out⟩
   clear B H0 g;go_wp2;go_ret;exact U.out
theorem zqz(k:Option Addr)(n c0:Nat)(zs:List Int)(w:World)(hz:Has .i64 w k n zs)(m:n<=100000):Calls Tryz.prog 40 #[.slice k n c0] w (BIs (xr zs) w):=by
 have q:=hid (zpt (n:Int) w (zbF m));have r:=hid (fun w' (hb:Below w.heap.size w w')=>zqm k n c0 zs w' (hz.step hb) m)
 have t:xr zs=zk (n:Int)++zs.flatMap zk:=by unfold xr;rw[hz.1]
 have H:(zk (n:Int)).length<=10:=kd (zbF m);have I:(zs.flatMap zk).length<=n*10:=by
  have:=zpa (f:=zk) (b:=10) (L:=zs) (fun y o=>kd (hz.2.1 y o))
  rwa[hz.1]at this
 have d:Hid (Mth.Byt (zs.flatMap zk)):=fun x F=>by
  obtain⟨y,_,o⟩:=List.mem_flatMap.1 F;exact yv _ x o
 rw[t];clear hz t;go_enter Tryz.func40,Tryz.ntmps40
 go_wp2_with fail
 refine q.out.mono ?_;rintro e E ⟨G,c1,rfl,i,j,c⟩;have g:=hid (r.out E c);have A:=hid i;have l:=hid c;have s:0<(zk (n:Int)).length:=zql _;clear i j c q r;have a:Hid ((zk (n:Int)++zs.flatMap zk).length=(zk (n:Int)).length+(zs.flatMap zk).length):=List.length_append;generalize zk (n:Int)=L1 at*;generalize zs.flatMap zk=L2 at*;go_wp2_with fail
 refine g.out.mono ?_;rintro e w2 ⟨J,c2,rfl,i,j,c⟩;obtain⟨u,c3,C,h,B,hb⟩:=(A.out.step c).more (c2:=c2) (i.has d.out) j (by omega) (zoz l.out.size c.size)
 have D:Hid (BIs (L1++L2) w (.returned (.slice u (L1.length+L2.length) c3)) C):=⟨u,c3,by rw[a.out],by rw[a.out];exact B,fun e=>by rw[a.out]at e;omega,(zh l.out c).trans hb⟩
 clear B hb i j c A l g d a;generalize L1.length=k1 at*;generalize L2.length=k2 at*;go_wp2_with (at_builtin;refine yg rfl _ _ rfl rfl rfl h ?_)
 go_ret;exact D.out
end Go.Proofs.YtbmcgbmegcpgnaaGreat
