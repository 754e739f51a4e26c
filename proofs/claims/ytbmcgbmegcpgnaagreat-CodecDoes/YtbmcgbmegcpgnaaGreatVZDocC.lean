import Derived.Test.YtbmcgbmegcpgnaaGreatVZDocB
import Derived.Deep.RegionHeld3
set_option maxHeartbeats 8000000
set_option maxRecDepth 20000
set_option linter.unusedSimpArgs false
namespace Go.Proofs.YtbmcgbmegcpgnaaGreat
open Go.RowKit
theorem zqO(n:Int):0<(zk n).length:=zql _
theorem k9(n:Int):Mth.Byt (zk n):=yv _
theorem xf{a b:List Int}(ha:Mth.Byt a)(hb:Mth.Byt b):Mth.Byt (a++b):=fun x c=>(List.mem_append.1 c).elim (ha x) (hb x)
theorem zo3{α :Type}{f: α->List Int}(h:∀x,Mth.Byt (f x))(l:List α):Mth.Byt (l.flatMap f):=fun x a=>by
 obtain⟨y,_,b⟩:=List.mem_flatMap.1 a;exact h y x b
theorem zqP(w:World)(x y:Int)(b:wfI x)(c:wfI y):Has .i64 (w.alloc (.cells #[.int .i64 x,.int .i64 y] 3)) (some ⟨w.heap.size,0,none⟩) 2 [x,y]:=by
 refine⟨rfl,fun n a=>?_,.inr ⟨w.heap.size,0,rfl,by simp,fun i hi=>?_⟩⟩
 ·simp only[zoD,zoA,or_false]at a;rcases a with rfl|rfl
  ·exact b
  ·exact c
 ·match i,hi with
  |0,_=>simp
  |1,_=>simp
def Cat(w:World)(a:Option Addr)(l c:Nat)(bs:List Int)(wr:World):Prop:=OwB w.heap.size a l c bs wr/\Below w.heap.size w wr
theorem Cat.more{w wr j:World}{a:Option Addr}{l c:Nat}{bs:List Int}(h:Cat w a l c bs wr){g:Option Addr}{c1:Nat}{L:List Int}(m:OwB wr.heap.size g L.length c1 L j)(n:L.length=0->g=none/\c1=0)(hb:Below wr.heap.size wr j)(k:Mth.Byt L)(hs:l+L.length<=9000000):
 ∃d f e,(Builtin.append_ #[30,30] 30 #[.slice a l c,.slice g L.length c1]).run Tryz.prog j=.ok (.slice d (l+L.length) f) e/\Cat w d (l+L.length) f (bs++L) e:=by
 obtain⟨d,f,e,b,o,i⟩:=(h.1.step hb).more (c2:=c1) (m.has k) n hs (zoz h.2.size hb.size);exact⟨d,f,e,b,o,(h.2.trans (hb.mono h.2.size)).trans i⟩
theorem Cat.step{w wr w':World}{a:Option Addr}{l c:Nat}{bs:List Int}(h:Cat w a l c bs wr)(hb:Below wr.heap.size wr w'):Cat w a l c bs w':=⟨h.1.step hb,h.2.trans (hb.mono h.2.size)⟩
theorem Cat.end{w wr:World}{a:Option Addr}{l c:Nat}{bs:List Int}(h:Cat w a l c bs wr)(b:0<l):BIs bs w (.returned (.slice a l c)) wr:=by
 have e:=h.1.1;subst e;exact⟨a,c,rfl,h.1,fun e=>by omega,h.2⟩
theorem ztw(x:PushD):Mth.Byt (zpi x):=by
 unfold zpi;refine xf (yv _) ?_;split
 ·exact yv _
 ·split
  ·exact xf (yv _) (yv _)
  ·intro y a;cases a
theorem zp7(es:List PushD):Mth.Byt (zpc es):=xf (yv _) (zo3 ztw es)
theorem zui{w w':World}{s:QSl}{S:List PushD}{i g off:Nat}{x:PushD}(m:QRow 4 PushD.lie w s S)(l:S[i]?=some x)(k:s.a=some ⟨g,off,none⟩)(hb:Below w.heap.size w w'):w'.cell? ⟨g,off+i*4,none⟩=some (.int .i64 x.op)/\w'.cell? ⟨g,off+i*4+1,none⟩=some (.int .i64 x.r.h)/\w'.cell? ⟨g,off+i*4+2,none⟩=some (.int .i64 x.r.f):=by
 obtain⟨n,c,b,⟨j,-⟩,⟨e,-⟩,⟨d,-⟩,-⟩:=(m.step PushD.keeps hb).2 i x l;rw[k]at b;simp only[zoo,Addr.mk.injEq,and_true]at b;obtain⟨rfl,rfl⟩:=b;exact⟨j,e,d⟩
theorem zuH(s:QSl)(S:List PushD)(w:World)(hr:QRow 4 PushD.lie w s S)(hn:s.n<=500):Calls Tryz.prog 44 #[.slice s.a s.n s.c] w (BIs (zpc S) w):=by
 have eL:zpc S=zk (s.n:Int)++S.flatMap zpi:=by unfold zpc;rw[hr.1]
 rw[eL];have HR:=hid hr;have HW:=hid (zpt (s.n:Int) w (zbF (by omega)))
 have a9:=hid (kd (zbF (show s.n<=100000 by omega)))
 have K:=hid hr.1;obtain⟨sa,n,sc⟩:=s;dsimp only at*;clear hr eL;go_enter Tryz.func44,Tryz.ntmps44
 go_wp2_with fail
 refine HW.out.mono ?_;rintro e w1 ⟨a1,c1,rfl,B,C,y⟩;have F:=zqO (n:Int);have H:Hid (Cat w a1 (zk (n:Int)).length c1 (zk (n:Int)++(S.take 0).flatMap zpi) w1):=⟨by simpa using B,y⟩
 clear B C y HW;have HK:=a9.out;generalize zk (n:Int)=L0 at*;generalize L0.length=k0 at*;have b1:=hid (And.intro F HK);clear F HK a9;go_wp2;go_loopw [3,4] (fun v q wr=>∃(i l:Nat) (a:Option Addr) (c:Nat),i<=n/\q=.int .i64 i/\v=.slice a l c/\Hid (Cat w a l c (L0++(S.take i).flatMap zpi) wr)/\Hid (0<l/\l<=10+i*30)) (fun _ q _=>n-(intOf q).toNat)
 case atStart=>exact⟨0,k0,a1,c1,zon _,rfl,rfl,H,by have:=b1.out;show _/\_;omega⟩
 case round=>
  obtain⟨i,l,a,c,hi,rfl,rfl,P,t⟩:=hrel;by_cases b2:i<n
  ·have b0:(i:Int)<(n:Int):=by omega
   have hx:S[i]?=some (S[i]'(by have:=K.out;omega)):=zoh _
   have J:=t.out;obtain⟨g,off,X,hp⟩:=(HR.out.step PushD.keeps P.out.2).2 i _ hx;have V:=hid (qz (f:=zpi) hx);generalize S[i]'(by have:=K.out;omega)=x at*
   dsimp only at X;rw[X];obtain⟨⟨p0,v0⟩,⟨p1,v1⟩,⟨p2,v2⟩,⟨p3,v3⟩⟩:=hp;have U:=bounds_u64 v3;have k:Hid (wfI x.op/\wfI x.r.h/\wfI x.r.f/\(Lit.int .u64 x.n).wf=true):=⟨v0,v1,v2,v3⟩;have A:=hid (zjU ⟨v0,v1,v2,v3⟩);have HX:=hid (zpt x.op wr v0);have M:=hid hx;clear hx v0 v1 v2 v3 H;go_wp2_with fail
   refine HX.out.mono ?_;rintro e w2 ⟨a2,c2,rfl,B,C,y⟩;have a0:=kd k.out.1;obtain⟨a3,c3,G,m,L⟩:=Cat.more P.out B C y (k9 _) (by omega)
   have u:=hid L;obtain⟨g',Z,d,⟨q0,-⟩,⟨q1,-⟩,⟨q2,-⟩,⟨q3,-⟩⟩:=(HR.out.step PushD.keeps L.2).2 i x M.out;dsimp only at d;rw[X]at d;simp only[zoo,Addr.mk.injEq,and_true]at d;obtain⟨rfl,rfl⟩:=d;have j:=hid (And.intro (zqO x.op) a0);generalize a6:zk x.op=L1 at*;have O:=hid a6;generalize a8:L1.length=k1 at*;have b3:=hid a8;clear a6 a8 B C y L HX p0 p1 p2 p3 a0;by_cases o1:x.op=1
   ·have d1:(x.op==1)=true:=by simpa using o1
    have d2:(x.op==2)=false:=by rw[o1];rfl
    have I:=hid (zsa x.n.toNat G (by omega))
    have eN:(x.n.toNat:Int)=x.n:=by omega
    rw[eN]at I;have Q:zpi x=L1++y8 x.n.toNat:=by unfold zpi;rw[if_pos o1,O.out]
    have HT:=hid Q;have N:=hid (zpm (n:=x.n.toNat) (by omega))
    clear eN Q o1;go_wp2_with (first|fail|(at_builtin;refine yg rfl _ _ rfl rfl rfl m ?_))
    refine I.out.mono ?_;rintro e w4 ⟨a4,c4,rfl,B,C,y⟩;obtain⟨a5,c5,w5,b,o⟩:=Cat.more u.out B C y (yv _) (by have:=N.out;have:=j.out;omega)
    have RN:Hid (Cat w a5 (l+k1+(y8 x.n.toNat).length) c5 (L0++(S.take (i+1)).flatMap zpi) w5):=by
     show Cat _ _ _ _ _ _;rw[V.out,HT.out];simpa using o
    have RB:Hid (0<l+k1+(y8 x.n.toNat).length/\l+k1+(y8 x.n.toNat).length<=10+(i+1)*30):=by have:=N.out;have:=j.out;show _/\_;omega
    obtain⟨g',Z,d,⟨r0,-⟩,-⟩:=(HR.out.step PushD.keeps o.2).2 i x M.out;dsimp only at d;rw[X]at d;simp only[zoo,Addr.mk.injEq,and_true]at d;obtain⟨rfl,rfl⟩:=d;generalize(y8 x.n.toNat).length=k2 at*;clear B C y o I P u HT N j t V A k J U q0 q1 q2 q3 m;go_wp2_with (at_builtin;refine yg rfl _ _ rfl rfl rfl b ?_)
    go_roundw
    case rel=>exact⟨i+1,_,a5,c5,by omega,by go_num,rfl,RN,RB⟩
    case measure=>simp[intOf];omega
   by_cases o2:x.op=2
   ·have d1:(x.op==1)=false:=by rw[o2];rfl
    have d2:(x.op==2)=true:=by simpa using o2
    obtain⟨D,e4⟩:∃D,D=G.alloc (.cells #[.int .i64 x.r.h,.int .i64 x.r.f] 3):=⟨_,rfl⟩;have Y:Below G.heap.size G D:=by rw[e4];exact ze (zof _ _)
    have a7:Has .i64 D (some ⟨G.heap.size,0,none⟩) 2 [x.r.h,x.r.f]:=by rw[e4];exact zqP G _ _ k.out.2.1 k.out.2.2.1
    have I:=hid (fun w' (hb:Below D.heap.size D w')=>zqm (some ⟨G.heap.size,0,none⟩) 2 2 [x.r.h,x.r.f] w' (a7.step hb) (by omega))
    have T:Hid (Below D.heap.size D D.drew):=(zof _ _).drew;have E:=hid ((u.out.step Y).step T.out);have eR:[x.r.h,x.r.f].flatMap zk=zoZ x.r:=by unfold zoZ;simp
    rw[eR]at I;have Q:zpi x=L1++zoZ x.r:=by unfold zpi;rw[if_neg (by omega),if_pos o2,O.out]
    have HT:=hid Q;have N:=hid (zqb k.out.2.1 k.out.2.2.1);have W:Hid (Mth.Byt (zoZ x.r)):=xf (yv _) (yv _);have E4:=hid e4;have R:=hid (fun w' (hb:Below w.heap.size w w')=>zui HR.out M.out X hb)
    clear eR Q o1 o2 Y a7 e4;go_wp2_with (first|fail|(at_builtin;refine yg rfl _ _ rfl rfl rfl m ?_))
    go_region_held3 (fun w'=>w'.cell? ⟨g,off+i*4+1,none⟩=some (.int .i64 x.r.h)/\w'.cell? ⟨g,off+i*4+2,none⟩=some (.int .i64 x.r.f))
     (first|(go_split_ands;first|exact⟨by assumption,by assumption⟩)|go_keep)
     (first
      |(go_at_call 41;rw[<-E4.out];refine(I.out _ T.out).mono ?_;rintro e w4 ⟨a4,c4,rfl,B,C,y⟩;obtain⟨a5,c5,w5,b,o⟩:=Cat.more E.out B C y W.out (by have:=N.out;have:=j.out;omega);obtain⟨s0,s1,s2⟩:=R.out w4 (E.out.2.trans (y.mono E.out.2.size));obtain⟨t0,t1,t2⟩:=R.out w5 o.2)
      |(refine zac rfl _ _ rfl (by simp[Act.eval]) (by simp[Act.eval]) b ?_))
    all_goals
     have RN:Hid (Cat w a5 (l+k1+(zoZ x.r).length) c5 (L0++(S.take (i+1)).flatMap zpi) w5):=by
      show Cat _ _ _ _ _ _;rw[V.out,HT.out];simpa using o
     have RB:Hid (0<l+k1+(zoZ x.r).length/\l+k1+(zoZ x.r).length<=10+(i+1)*30):=by have:=N.out;have:=j.out;show _/\_;omega
     generalize(zoZ x.r).length=k2 at*;clear B C y o I P u E T HT N j t V A k J U q0 q1 q2 q3 m b s0 s1 s2 t0 t1 t2 R W E4;go_wp2;go_roundw
     case rel=>exact⟨i+1,_,a5,c5,by omega,by go_num,rfl,RN,RB⟩
     case measure=>simp[intOf];omega
   ·have d1:(x.op==1)=false:=by simpa using o1
    have d2:(x.op==2)=false:=by simpa using o2
    have RN:Hid (Cat w a3 (l+k1) c3 (L0++(S.take (i+1)).flatMap zpi) G):=by
     have Q:zpi x=L1:=by unfold zpi;rw[if_neg o1,if_neg o2,O.out,List.append_nil]
     show Cat _ _ _ _ _ _;rw[V.out,Q];simpa using u.out
    have RB:Hid (0<l+k1/\l+k1<=10+(i+1)*30):=by have:=j.out;show _/\_;omega
    clear P u j t V A k J U o1 o2;go_wp2_with (at_builtin;refine yg rfl _ _ rfl rfl rfl m ?_)
    go_roundw
    case rel=>exact⟨i+1,_,a3,c3,by omega,by go_num,rfl,RN,RB⟩
    case measure=>simp[intOf];omega
  ·have b0:¬(i:Int)<(n:Int):=by omega
   have HE:Hid (BIs (L0++S.flatMap zpi) w (.returned (.slice a l c)) wr):=by
    have h:=P.out;rw[List.take_of_length_le (by have:=K.out;omega)]at h
    exact h.end t.out.1
   clear H P t;go_wp2;go_ret;exact HE.out
theorem zuT(x:OpD)(h:x.kind=1):opL x=(zk x.kind++zoZ x.r)++zpc x.es:=by unfold opL;rw[if_pos h,List.append_assoc]
theorem zsx(x:OpD)(h:x.kind=2\/x.kind=3):opL x=zk x.kind++zk x.head:=by
 unfold opL;rcases h with h|h
 ·rw[if_neg (by omega),if_pos h]
 ·rw[if_neg (by omega),if_neg (by omega),if_pos h]
theorem zuj(x:OpD)(h:x.kind=5):opL x=zk x.kind++zpc x.es:=by unfold opL;rw[if_neg (by omega),if_neg (by omega),if_neg (by omega),if_pos h]
theorem zuU(x:OpD)(h:x.kind=6):opL x=(zk x.kind++zoZ x.r)++zk x.head:=by unfold opL;rw[if_neg (by omega),if_neg (by omega),if_neg (by omega),if_neg (by omega),if_pos h,List.append_assoc]
theorem zuk(x:OpD)(h:x.kind≠1/\x.kind≠2/\x.kind≠3/\x.kind≠5/\x.kind≠6):opL x=zk x.kind:=by
 unfold opL;rw[if_neg h.1,if_neg h.2.1,if_neg h.2.2.1,if_neg h.2.2.2.1,if_neg h.2.2.2.2,List.append_nil]
end Go.Proofs.YtbmcgbmegcpgnaaGreat
