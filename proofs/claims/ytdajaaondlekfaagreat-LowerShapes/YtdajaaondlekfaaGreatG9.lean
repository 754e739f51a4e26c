import Derived.Test.YtdajaaondlekfaaGreatG7
import Derived.Test.YtdajaaondlekfaaGreatG6
import Derived.Deep.DeepCutAuto
import Derived.Test.YtdajaaondlekfaaGreatG1
import Derived.Test.YtdajaaondlekfaaGreatG3
import Derived.Test.YtdajaaondlekfaaGreatG8
import Derived.Deep.RegionHeld3
import Derived.Test.YtdajaaondlekfaaGreatG0
import Derived.Test.YtdajaaondlekfaaGreatG4
set_option maxHeartbeats 8000000
set_option maxRecDepth 20000
set_option linter.unusedSimpArgs false
namespace Go.Proofs.YtdajaaondlekfaaGreat
open Go.RowKit
theorem zlv(n:Int):kM (yI n):=by
 show(Lit.int .u64 (yI n)).wf=true;unfold yI;split
 ·rename_i h
  have h2:2^n.toNat<=2^64:=Nat.pow_le_pow_right (by decide) (by omega)
  have a:(2:Nat)^64=18446744073709551616:=by decide
  simp[Lit.wf,IntKind.min,IntKind.max,IntKind.bits,IntKind.signed];omega
 ·decide
theorem zmm{G:World}{B:Nat}{cs:List InsD}{ms:List Int}{w:World}{M:MkrD}(m:MkrAt M G)(h:St G B M.pa cs ms w)(f:RefD)(O:zbh M.L f)(hs:0<=zY M.L f/\zY M.L f<1000)(s:cs.length+3<=100000):Calls Tryz.prog 111 #[M.v,.agg #[.int .i64 f.h,.int .i64 f.f]] w (Em G B M.pa w (.tuple #[]) (cs++qW M.d.p M.L f) ms):=by
 obtain⟨C,h2,c3,r⟩:=h.box #[.int .i64 f.h,.int .i64 f.f] 57;have N:=hid c3;obtain⟨k,hW2⟩:∃k,k=w.alloc (.cells #[.int .i64 f.h,.int .i64 f.f] 57):=⟨_,rfl⟩;obtain⟨fb,hfb⟩:∃b,b=w.heap.size:=⟨_,rfl⟩;rw[<-hW2]at h2;have P:Below w.heap.size w k:=by rw[hW2];exact ze (zof _ _)
 have H0:Hid (∀w',Cov C w'->w'.cell? ⟨fb,0,none⟩=some (.int .i64 f.h)):=fun w' c=>c.2 _ _ _ (by rw[hfb];exact r 0 _ rfl)
 have E:Hid (∀w',Cov C w'->w'.cell? ⟨fb,1,none⟩=some (.int .i64 f.f)):=fun w' c=>c.2 _ _ _ (by rw[hfb];exact r 1 _ rfl)
 have U:=hid (P.mono h.lo);clear h r P;have m:=m.cov c3.cov;have H:=hid m;have f0:=H0.out _ h2.cov;have f1:=E.out _ h2.cov;have fl:=zog _ _ f0;obtain⟨c0,c1,c2,A,c4,c5,c6,c7,_,_,_,_,_,_,_,_,_,_⟩:=m.box.cov h2.cov;have Z:=zog _ _ c7;have t:=hid (fun w' (s:Cov C w')=>m.box.cov s)
 have B0:=hid (zof k.heap.size k);have EW:=hid hW2;have Y:=hid hfb;have R:yU M.d f.h f.f []=M.d.p.width f []:=qD m.pl f [];have D:=hid (fun w' (b:Below k.heap.size k w')=>(zaw M.d f.h f.f none 0 0 [] w' (zbE m.pl (zas h2.cov b)) (zW _ _)).mono fun e j (y:e=.returned (.int .i64 (yU M.d f.h f.f []))/\Below w'.heap.size w' j)=>(⟨y.1,zh b y.2⟩:e=.returned (.int .i64 (yU M.d f.h f.f []))/\Below k.heap.size k j))
 rw[R]at D;have T:=hid (zi7 (M.d.p.width f []));have J:=hid (fun w' (b:Below k.heap.size k w')=>zeL m (h2.step b) 0 6 (yI (M.d.p.width f [])) wf0 (by decide) (zlv _) (by omega))
 have e:cs++qW M.d.p M.L f=(cs++kH 0 6 (yI (M.d.p.width f [])))++[kx 0 (zY M.L f)]:=by unfold qW;rw[List.append_assoc]
 rw[e];obtain⟨X,hX⟩:∃X,X=(cs++kH 0 6 (yI (M.d.p.width f [])))++[kx 0 (zY M.L f)]:=⟨_,rfl⟩;rw[<-hX];have HX:=hid hX;clear hX;have S:=zbe hs;have F:=hid S;have Q:=hid O;have HC:=hid s;have HD:=hid h2.lo;dsimp only[MkrD.v,PlanD.v]at D J ⊢;generalize M.d.p.width f []=wd at*;clear m h2 c3 s O hs S e R hW2 hfb;go_enter Tryz.func111,Tryz.ntmps111
 go_upto_region 1 with fail
 rw[<-EW.out,<-Y.out];go_region_held3 (fun w'=>w'.cell? ⟨M.mb,0,none⟩=some (.slice M.d.heads.a M.d.heads.n M.d.heads.c)/\w'.cell? ⟨M.mb,1,none⟩=some (.slice M.d.mta.a M.d.mta.n M.d.mta.c)/\w'.cell? ⟨M.mb,2,none⟩=some (.slice M.d.states.a M.d.states.n M.d.states.c)/\w'.cell? ⟨M.mb,3,none⟩=some (.slice M.d.acts.a M.d.acts.n M.d.acts.c)/\w'.cell? ⟨M.mb,4,none⟩=some (.slice M.d.tabs.a M.d.tabs.n M.d.tabs.c)/\w'.cell? ⟨M.mb,5,none⟩=some (.slice M.d.nodes.a M.d.nodes.n M.d.nodes.c)/\w'.cell? ⟨M.mb,6,none⟩=some (.slice M.d.out.a M.d.out.n M.d.out.c)/\w'.cell? ⟨fb,0,none⟩=some (.int .i64 f.h)/\w'.cell? ⟨fb,1,none⟩=some (.int .i64 f.f)) (first|exact⟨o.c0,o.c1,o.c2,o.c3,o.c4,o.c5,o.c6,u,x⟩|exact⟨za c0 i,za c1 i,za c2 i,za A i,za c4 i,za c5 i,za c6 i,za f0 i,za f1 i⟩|go_keep) (first
  |(go_at_call 156;refine(D.out _ B0.out.drew).mono ?_;rintro e w3 ⟨rfl,i⟩)
  |(go_at_call 155;refine(T.out _).mono ?_;rintro e w4 ⟨rfl,rfl⟩)
  |(go_at_call 75;refine(J.out _ i).mono ?_;rintro e q ⟨rfl,g⟩;have o:=t.out q g.1.cov;have u:=H0.out q g.1.cov;have x:=E.out q g.1.cov))
 have K:=hid ((U.out.trans (i.mono HD.out)).trans g.2);have f0:=u;have f1:=x;have fl:=zog _ _ f0;have c7:=o.c7;dsimp only[zcf]at c7;have Z:=zog _ _ c7;have HS:=hid (fun w' (b:Below q.heap.size q w')=>(zmq H.out (zas g.1.cov b) f Q.out).mono fun e j (y:TellQ _ w' e j)=>(⟨y.1,zh b y.2⟩:e=.returned (.int .i64 (zY M.L f))/\Below q.heap.size q j))
 have W:=hid (qU g.1 [kx 0 (zY M.L f)] #[.int .i64 8,.int .i64 0,.int .i64 0,.int .i64 0,.int .i64 0,.int .u64 (zY M.L f)] rfl 1 rfl (xq (wfS wf0 F.out.1)) (by decide) (by have:=HC.out;simp only[kH,zor,List.length_cons,List.length_nil];omega) 126)
 have V:=hid (fun w'=>znv 0 (zY M.L f) w' F.out.2)
 have H7:=hid (fun w' (s:Cov C w')=>H.out.c7 s)
 have B0:=hid (zof q.heap.size q);clear g o u x i J T D t F Q H m;clear c0 c1 c2 A c4 c5 c6;generalize zY M.L f=z at*;go_wp2_with fail
 go_region_held3 (fun w'=>w'.cell? ⟨M.mb,7,none⟩=some (.pointer (some ⟨M.pa,0,none⟩))/\w'.cell? ⟨fb,0,none⟩=some (.int .i64 f.h)/\w'.cell? ⟨fb,1,none⟩=some (.int .i64 f.f)) (first|exact⟨k7,u,x⟩|exact⟨za c7 l,za f0 l,za f1 l⟩|exact⟨za c7 (ze l),za f0 (ze l),za f1 (ze l)⟩|exact⟨za c7 (ze (ze l)),za f0 (ze (ze l)),za f1 (ze (ze l))⟩|go_keep) (first
  |(go_at_call 112;refine(HS.out _ B0.out.drew).mono ?_;rintro e w4 ⟨rfl,l⟩)
  |(go_at_call 71;refine(V.out _).mono ?_;rintro e w5 ⟨o1,rfl,rfl⟩)
  |(go_at_call 42;refine(W.out _ _ (by simp) (ze l)).mono ?_;rintro e I ⟨rfl,g⟩;have k7:=H7.out I g.1.cov;have u:=H0.out I g.1.cov;have x:=E.out I g.1.cov))
 all_goals
  have g:=hid g;go_wp2;exact bodyPost_ret (v:=.tuple #[]) (by simp[results,Tryz.results111,go_sem]) rfl ⟨rfl,by rw[HX.out];exact g.out.1.less N.out,K.out.trans g.out.2⟩
def zcH(L:LayD)(x:PushD):Prop:=(x.op=1/\kM x.n)\/(x.op=2/\(x.r.h= -3\/zbh L x.r/\0<=zY L x.r/\zY L x.r<1000))\/x.op=13\/(3<=x.op/\x.op<=12)
theorem zbF(n:Nat)(h:n<1000000):yt (n:Int):=by
 show(Lit.int .i64 (n:Int)).wf=true;simp[Lit.wf,IntKind.min,IntKind.max,IntKind.bits,IntKind.signed];omega
theorem zd4{n:Int}(h:0<=n/\n<1000000):yt n:=by
 show(Lit.int .i64 n).wf=true;simp[Lit.wf,IntKind.min,IntKind.max,IntKind.bits,IntKind.signed];omega
@[reducible] def PushD.v4(x:PushD):Value:=.agg #[.int .i64 x.op,.int .i64 x.r.h,.int .i64 x.r.f,.int .u64 x.n]
theorem znB{G:World}{B:Nat}{cs:List InsD}{ms:List Int}{w:World}{M:MkrD}(j:MkrAt M G)(h:St G B M.pa cs ms w)(r:Nat)(hr:r<1000)(x:PushD)(U:zcH M.L x)(i:cs.length+1<=100000):Calls Tryz.prog 119 #[M.v,.int .i64 r,x.v4] w (Em G B M.pa w (.tuple #[]) (cs++zcB M.L r x) ms):=by
 obtain⟨t,h2,c3,g⟩:=h.box #[.int .i64 x.op,.int .i64 x.r.h,.int .i64 x.r.f,.int .u64 x.n] 95;have l:=hid c3;obtain⟨u,hW2⟩:∃u,u=w.alloc (.cells #[.int .i64 x.op,.int .i64 x.r.h,.int .i64 x.r.f,.int .u64 x.n] 95):=⟨_,rfl⟩;obtain⟨fb,hfb⟩:∃b,b=w.heap.size:=⟨_,rfl⟩;rw[<-hW2]at h2;have I:Below w.heap.size w u:=by rw[hW2];exact ze (zof _ _)
 have H0:Hid (∀w',Cov t w'->w'.cell? ⟨fb,0,none⟩=some (.int .i64 x.op)):=fun w' c=>c.2 _ _ _ (by rw[hfb];exact g 0 _ rfl)
 have Q:Hid (∀w',Cov t w'->w'.cell? ⟨fb,1,none⟩=some (.int .i64 x.r.h)):=fun w' c=>c.2 _ _ _ (by rw[hfb];exact g 1 _ rfl)
 have V:Hid (∀w',Cov t w'->w'.cell? ⟨fb,2,none⟩=some (.int .i64 x.r.f)):=fun w' c=>c.2 _ _ _ (by rw[hfb];exact g 2 _ rfl)
 have K:Hid (∀w',Cov t w'->w'.cell? ⟨fb,3,none⟩=some (.int .u64 x.n)):=fun w' c=>c.2 _ _ _ (by rw[hfb];exact g 3 _ rfl)
 have A:=hid (I.mono h.lo);clear h g I;have j:=j.cov c3.cov;have f0:=H0.out _ h2.cov;have f1:=Q.out _ h2.cov;have f2:=V.out _ h2.cov;have N:=K.out _ h2.cov;have fl:=zog _ _ f0;have c7:=j.c7 h2.cov;have W:=zog _ _ c7;have P:=hid (fun w' (i:Cov t w')=>j.c7 i)
 have B0:=hid (zof u.heap.size u);have C:=hid hW2;have D:=hid hfb;clear c3 hW2 hfb;obtain⟨X,hX⟩:∃X,X=cs++zcB M.L r x:=⟨_,rfl⟩;rw[<-hX];dsimp only[MkrD.v,PushD.v4];obtain⟨op,⟨J,O⟩,xn⟩:=x;dsimp only at*;rcases U with⟨d,k⟩|⟨d,k⟩|d|⟨d,k⟩
 ·have d:op=1:=d;subst d;have o:Hid (X=cs++[xI r xn]):=hX;have m:=hid (xy h2 [xI r xn] #[.int .i64 1,.int .i64 r,.int .i64 0,.int .i64 0,.int .i64 0,.int .u64 xn] rfl 1 rfl (xq (wfN (zbF r (by omega)) k)) (by decide) i 126)
  have E:=hid (zat r xn);clear j h2 i hX k;go_enter Tryz.func119,Tryz.ntmps119
  go_upto_region 1 with fail
  rw[<-C.out,<-D.out];go_wp2_with fail
  go_region_held3 (fun w'=>w'.cell? ⟨M.mb,7,none⟩=some (.pointer (some ⟨M.pa,0,none⟩))/\w'.cell? ⟨fb,3,none⟩=some (.int .u64 xn)) (first|exact⟨H,F⟩|exact⟨za c7 (ze B0.out).drew,za N (ze B0.out).drew⟩|exact⟨za c7 (ze (ze B0.out)).drew,za N (ze (ze B0.out)).drew⟩|go_keep) (first
   |(go_at_call 43;refine(E.out _).mono ?_;rintro e R ⟨S,rfl,rfl⟩)
   |(go_at_call 42;refine(m.out _ _ (by simp) (ze B0.out)).mono ?_;rintro e q ⟨rfl,a⟩;have H:=P.out q a.1.cov;have F:=K.out q a.1.cov))
  all_goals
   have a:=hid a;go_wp2;exact bodyPost_ret (v:=.tuple #[]) (by simp[results,Tryz.results119,go_sem]) rfl ⟨rfl,by rw[o.out];exact a.out.1.less l.out,A.out.trans a.out.2⟩
 ·have d:op=2:=d;subst d;have o:Hid (X=cs++kw M.L r ⟨J,O⟩):=hX;have m:=hid (zmr j h2 r (zbF r (by omega)) ⟨J,O⟩ k i)
  dsimp only[MkrD.v]at m;clear j h2 i hX k;go_enter Tryz.func119,Tryz.ntmps119
  go_upto_region 1 with fail
  rw[<-C.out,<-D.out];go_wp2_with fail
  refine m.out.mono ?_;rintro e q ⟨rfl,a⟩;have a:=hid a;go_wp2;exact bodyPost_ret (v:=.tuple #[]) (by simp[results,Tryz.results119,go_sem]) rfl ⟨rfl,by rw[o.out];exact a.out.1.less l.out,A.out.trans a.out.2⟩
 ·have d:op=13:=d;subst d;have o:Hid (X=cs++[⟨4,r,0,0,0,0⟩]):=hX;have m:=hid (qU h2 [⟨4,r,0,0,0,0⟩] #[.int .i64 4,.int .i64 r,.int .i64 0,.int .i64 0,.int .i64 0,.int .u64 0] rfl 1 rfl (xq ⟨(by decide:yt 4),zbF r (by omega),wf0,wf0,wf0,(by decide:kM 0)⟩) (by decide) i 126)
  clear j h2 i hX;go_enter Tryz.func119,Tryz.ntmps119
  go_upto_region 1 with fail
  rw[<-C.out,<-D.out];go_wp2_with fail
  refine(m.out _ _ (by simp) B0.out).mono ?_
  rintro e q ⟨rfl,a⟩;have a:=hid a;go_wp2;exact bodyPost_ret (v:=.tuple #[]) (by simp[results,Tryz.results119,go_sem]) rfl ⟨rfl,by rw[o.out];exact a.out.1.less l.out,A.out.trans a.out.2⟩
 ·have d:3<=op:=d;have k:op<=12:=k;have y:X=cs++[qu r ((r:Int)+1) op]:=by
   rw[hX];unfold zcB;rw[if_neg (by show¬op=1;omega),if_neg (by show¬op=2;omega),if_neg (by show¬op=13;omega)]
  have o:=hid y;have s:IntKind.i64.wrap ((r:Int)+1)=(r:Int)+1:=zX _ (by omega) (by omega)
  rw[<-s]at o;have m:=hid (xy h2 [qu r (IntKind.i64.wrap ((r:Int)+1)) op] #[.int .i64 3,.int .i64 r,.int .i64 (IntKind.i64.wrap ((r:Int)+1)),.int .i64 op,.int .i64 0,.int .u64 0] rfl 1 rfl (xq (wfB (zbF r (by omega)) (zd4 (by rw[s];omega)) (zd4 (by omega)))) (by decide) i 126)
  have E:=hid (zd2 r (IntKind.i64.wrap ((r:Int)+1)) op);have n1:(op==1)=false:=by simp;omega
  have n2:(op==2)=false:=by simp;omega
  have T:(op==13)=false:=by simp;omega
  clear j h2 i hX y d k s hr;go_enter Tryz.func119,Tryz.ntmps119
  go_upto_region 1 with fail
  rw[<-C.out,<-D.out];go_wp2_with fail
  go_region_held3 (fun w'=>w'.cell? ⟨M.mb,7,none⟩=some (.pointer (some ⟨M.pa,0,none⟩))/\w'.cell? ⟨fb,0,none⟩=some (.int .i64 op)) (first|exact⟨H,F⟩|exact⟨za c7 (ze B0.out).drew,za f0 (ze B0.out).drew⟩|exact⟨za c7 (ze (ze B0.out)).drew,za f0 (ze (ze B0.out)).drew⟩|go_keep) (first
   |(go_at_call 113;refine(E.out _).mono ?_;rintro e R ⟨S,rfl,rfl⟩)
   |(go_at_call 42;refine(m.out _ _ (by simp) (ze B0.out)).mono ?_;rintro e q ⟨rfl,a⟩;have H:=P.out q a.1.cov;have F:=H0.out q a.1.cov))
  all_goals
   have a:=hid a;go_wp2;exact bodyPost_ret (v:=.tuple #[]) (by simp[results,Tryz.results119,go_sem]) rfl ⟨rfl,by rw[o.out];exact a.out.1.less l.out,A.out.trans a.out.2⟩
theorem zjU(L:LayD)(r:Int)(x:PushD):(zcB L r x).length=1:=by
 unfold zcB kw;repeat' split
 all_goals rfl
theorem zcJ{L:LayD}{es:List PushD}{i:Nat}{x:PushD}(h:es[i]?=some x):xK L es (i+1)=zgU L (xK L es i) x:=by
 unfold xK;rw[zoI,h,List.foldl_append];rfl
theorem zdx(L:LayD)(es:List PushD):(xK L es es.length).2=qV L es:=by
 unfold xK qV;rw[List.take_length]
theorem zdy(L:LayD)(es:List PushD):∀i,(xK L es i).2.length<=i:=by
 intro i;induction i with
 |zero=>simp[xK]
 |succ i ih=>
  cases h:es[i]? with
  |none=>
   have:es.take (i+1)=es.take i:=by rw[zoI,h];simp
   unfold xK at ih ⊢;rw[this];omega
  |some x=>
   rw[zcJ h];simp only[zgU,zor,zjU];omega
structure zjV (L : LayD) (es : List PushD) : Prop where
 st : ∀ x ∈ es, zcH L x
 lo : ∀ i x, es[i]? = some x -> 0 <= (xK L es i).1 - yk x.op /\ (xK L es i).1 - yk x.op < 500
 n : es.length <= 1000
theorem znE{l:World}{B:Nat}{cs:List InsD}{ms:List Int}{w:World}{M:MkrD}(N:MkrAt M l)(h:St l B M.pa cs ms w)(q:QSl)(es:List PushD)(u:QRow 4 PushD.lie l q es)(E:zjV M.L es)(K:cs.length+es.length<=100000):Calls Tryz.prog 81 #[M.v,.slice q.a q.n q.c] w (Em l B M.pa w (.tuple #[]) (cs++qV M.L es) ms):=by
 obtain⟨X,hX⟩:∃X,X=cs++qV M.L es:=⟨_,rfl⟩;rw[<-hX];have HX:=hid hX;have HM:=hid N;have Y:=hid u;have S:=hid E;have HC:=hid K;have R:=hid h;have Z:q.n<=1000:=by rw[<-u.1];exact E.n
 have m:Hid (es.length=q.n):=u.1;clear hX N u E K h;obtain⟨W,d,qc⟩:=q;dsimp only[MkrD.v]at*;go_enter Tryz.func81,Tryz.ntmps81
 go_wp2;go_loopw [9,4,6] (fun k t _ wr=>∃i:Nat,i<=d/\k=.int .i64 i/\t=.int .i64 (xK M.L es i).1/\Hid (St l B M.pa (cs++(xK M.L es i).2) ms wr/\Below B w wr)) (fun k _ _ _=>d-(intOf k).toNat)
 case atStart=>exact⟨0,zon _,rfl,rfl,by simpa[xK]using R.out,zof _ _⟩
 case round=>
  obtain⟨i,hi,rfl,rfl,J⟩:=hrel;by_cases y:i<d
  ·have H:(i:Int)<(d:Int):=by omega
   obtain⟨g,off,x,G,b,V⟩:=zV (Y.out.cov PushD.covs J.out.1.cov) (show i<d from y)
   have G:W=some ⟨g,off,none⟩:=G;subst G;obtain⟨⟨U,_⟩,⟨p1,_⟩,⟨p2,_⟩,⟨p3,_⟩⟩:=V;have hg:=zog _ _ U;have j:=S.out.st x (zol b);obtain⟨A,D⟩:=S.out.lo i x b;obtain⟨r,hr⟩:∃r:Nat,(xK M.L es i).1-yk x.op=(r:Int):=⟨((xK M.L es i).1-yk x.op).toNat,by omega⟩
   have a0:r<500:=by omega
   have F:=zcJ (L:=M.L) b;have O:(xK M.L es (i+1)).1=((r+1:Nat):Int):=by rw[F];show(xK M.L es i).1-yk x.op+1=_;omega
   have Q:(cs++(xK M.L es i).2)++zcB M.L r x=cs++(xK M.L es (i+1)).2:=by
    rw[F,<-hr,List.append_assoc];rfl
   have C:Below wr.heap.size wr (wr.alloc (.cells #[.int .i64 x.op,.int .i64 x.r.h,.int .i64 x.r.f,.int .u64 x.n] 95)):=ze (zof _ _);have P:=hid (zdE x.op);have o:=hid (znB HM.out (J.out.1.step C) r (by omega) x j (by have:=zdy M.L es i;have:=HC.out;have:=m.out;simp only[zor]at*;omega))
   rw[Q]at o;dsimp only[MkrD.v,PushD.v4]at o;have E1:=hid O;have T:=hid (J.out.2.trans (C.mono J.out.1.lo));have hw:IntKind.i64.wrap ((xK M.L es i).1-yk x.op)=(r:Int):=by rw[hr];exact zX _ (by omega) (by omega)
   clear j A D F O Q C b J hr;generalize yk x.op=tk at*;generalize(xK M.L es i).1=tp at*;go_wp2_with fail
   refine(P.out _).mono ?_;rintro e w1 ⟨rfl,rfl⟩;go_wp2_with fail
   refine o.out.mono ?_;rintro e w2 ⟨rfl,s⟩;have s:=hid s;clear o P;go_wp2;go_roundw
   case rel=>exact⟨i+1,by omega,by go_num,by rw[E1.out];go_num,s.out.1,T.out.trans s.out.2⟩
   case measure=>simp[intOf];omega
  ·have H:¬(i:Int)<(d:Int):=by omega
   obtain rfl:i=d:=by omega
   have I:=hid J.out;clear J R;go_wp2;refine bodyPost_ret (v:=.tuple #[]) (by simp[results,Tryz.results81,go_sem]) rfl ⟨rfl,?_,I.out.2⟩
   have m:es.length=i:=m.out;rw[HX.out,<-zdx,m];exact I.out.1
@[reducible] def zaC(h f:Int)(a b:Nat):Value:=.agg #[.int .i64 h,.int .i64 f,.int .i64 (a:Int),.int .i64 (b:Int)]
theorem zb1(w:World)(h f:Int)(a b:Nat):∃c:World,∃d:Nat,c=w.alloc (.cells #[.int .i64 h,.int .i64 f,.int .i64 (a:Int),.int .i64 (b:Int)] 193)/\d=w.heap.size/\Below w.heap.size w c/\c.cell? ⟨d,0,none⟩=some (.int .i64 h)/\c.cell? ⟨d,1,none⟩=some (.int .i64 f)/\c.cell? ⟨d,2,none⟩=some (.int .i64 (a:Int))/\c.cell? ⟨d,3,none⟩=some (.int .i64 (b:Int))/\d<c.heap.size:=
 ⟨_,_,rfl,rfl,ze (zof _ _),by simp,by simp,by simp,by simp,by simp⟩
theorem znz(h f:Int)(a b:Nat)(c:a<=b)(hb:b<100000)(w:World):Calls Tryz.prog 121 #[zaC h f a b] w (TellQ (.int .u64 ((b-a:Nat):Int)) w):=by
 have d:=hid (fun o=>ze (o:=o) (zof w.heap.size w))
 have g:IntKind.i64.wrap ((b:Int)-(a:Int))=((b-a:Nat):Int):=by rw[zX _ (by omega) (by omega)];omega
 have e:IntKind.u64.wrap (((b-a:Nat)):Int)=((b-a:Nat):Int):=xF _ (by omega) (by omega)
 clear c hb;generalize((b-a:Nat):Int)=z at*;go_enter Tryz.func121,Tryz.ntmps121
 go_wp2;exact bodyPost_ret (v:=.int .u64 z) (by simp[results,Tryz.results121,go_sem]) rfl (TellQ.of (d.out _))
theorem znA(h f:Int)(a b:Nat)(i:a<=b)(hb:b<100000)(w:World):Calls Tryz.prog 110 #[zaC h f a b,.int .i64 8] w (TellQ (.tuple #[.int .i64 ((a/8:Nat):Int),.int .i64 (((b+7)/8-a/8:Nat):Int),.int .u64 (((b+7)/8*8-b:Nat):Int)]) w):=by
 have g:=hid (fun o=>ze (o:=o) (zof w.heap.size w))
 have e:((a/8:Nat):Int)=(a:Int)/8:=by omega
 have c:(((b+7)/8-a/8:Nat):Int)=((b:Int)+8-1)/8-(a:Int)/8:=by omega
 have d:(((b+7)/8*8-b:Nat):Int)=((b:Int)+8-1)/8*8-(b:Int):=by omega
 rw[e,c,d];clear e c d;go_enter Tryz.func110,Tryz.ntmps110
 go_wp2_with fail
 go_region
 go_wp2;exact bodyPost_ret (v:=.tuple #[.int .i64 ((a:Int)/8),.int .i64 (((b:Int)+8-1)/8-(a:Int)/8),.int .u64 (((b:Int)+8-1)/8*8-(b:Int))]) (by simp[results,Tryz.results110,go_sem]) rfl (TellQ.of (g.out _).drew)
def jl(p:PPlan)(L:LayD)(h f:Int)(a b:Nat):List InsD:=⟨6,0,7,((b+7)/8-a/8:Nat),0,(a/8:Nat)⟩::(kH 0 10 ((b+7)/8*8-b:Nat)++qW p L ⟨h,f⟩)
theorem zb8(n:Nat)(h:n<1000000):kM (n:Int):=by
 show(Lit.int .u64 (n:Int)).wf=true;simp[Lit.wf,IntKind.min,IntKind.max,IntKind.bits,IntKind.signed];omega
theorem zjz(p:PPlan)(L:LayD)(f:RefD):(qW p L f).length=3:=rfl
theorem zbA(p:PPlan)(L:LayD)(h f:Int)(a b:Nat):(jl p L h f a b).length=6:=rfl
theorem zmS{C:World}{B:Nat}{cs:List InsD}{ms:List Int}{w:World}{M:MkrD}(n:MkrAt M C)(h:St C B M.pa cs ms w){cb:Nat}(s:C.cell? ⟨cb,0,none⟩=some M.v)(g ff:Int)(N:zbh M.L ⟨g,ff⟩)(hs:0<=zY M.L ⟨g,ff⟩/\zY M.L ⟨g,ff⟩<1000)(a b:Nat)(m:a<=b)(hb:b<100000)(A:cs.length+6<=100000):Calls Tryz.prog 109 #[zaC g ff a b,.pointer (some ⟨cb,0,none⟩)] w (Em C B M.pa w (.tuple #[]) (cs++jl M.d.p M.L g ff a b) ms):=by
 obtain⟨x,h2,c3,j⟩:=h.box #[.int .i64 g,.int .i64 ff,.int .i64 (a:Int),.int .i64 (b:Int)] 193;have J:=hid c3;obtain⟨Z,O,l,i,Q,f0,f1,f2,Y,fl⟩:=zb1 w g ff a b;rw[<-l]at h2;have H0:Hid (∀w',Cov x w'->w'.cell? ⟨O,0,none⟩=some (.int .i64 g)):=fun w' c=>c.2 _ _ _ (by rw[i];exact j 0 _ rfl)
 have S:Hid (∀w',Cov x w'->w'.cell? ⟨O,1,none⟩=some (.int .i64 ff)):=fun w' c=>c.2 _ _ _ (by rw[i];exact j 1 _ rfl)
 have U:=hid (Q.mono h.lo);have n:=n.cov c3.cov;have H7:=hid (fun w' (A:Cov x w')=>n.c7 A)
 have k:Hid (∀w',Cov x w'->w'.cell? ⟨cb,0,none⟩=some M.v):=fun w' c=>c.2 _ _ _ (c3.cov.2 _ _ _ s)
 have EW:=hid l;have W:=hid i;have R:=hid n;have u:=hid h2;have q:=hid (znA g ff a b m hb Z);obtain⟨X,hX⟩:∃X,X=cs++jl M.d.p M.L g ff a b:=⟨_,rfl⟩;rw[<-hX];unfold jl at hX;have q1:a/8<100000:=by omega
 have q2:(b+7)/8-a/8<100000:=by omega
 have q3:(b+7)/8*8-b<100000:=by omega
 have T:=hid (zos 0);generalize a/8=n1 at*;generalize(b+7)/8-n1=n2 at*;generalize(b+7)/8*8-b=n3 at*;have HX:=hid hX;have V:=hid N;have I:=hid hs;have HC:=hid A;clear n h h2 c3 j s N hs A hX l i Q m hb;dsimp only[MkrD.v,zaC]at*;go_enter Tryz.func109,Tryz.ntmps109
 go_upto_region 1 with fail
 rw[<-EW.out,<-W.out];go_wp2_with fail
 refine q.out.mono ?_;rintro e D ⟨rfl,F⟩;have y:=u.out.step F;have r:=hid (U.out.trans (F.mono u.out.lo));have cc:=k.out D y.cov;have o:=zog _ _ cc;have c7:=H7.out D y.cov;have hl:=zog _ _ c7;have P:=hid (qU y [⟨6,0,7,n2,0,n1⟩] #[.int .i64 6,.int .i64 0,.int .i64 7,.int .i64 n2,.int .i64 0,.int .u64 n1] rfl 1 rfl (xq ⟨(by decide:yt 6),wf0,(by decide:yt 7),zbF n2 (by omega),wf0,zb8 n1 (by omega)⟩) (by decide) (by have:=HC.out;omega) 126)
 have B0:=hid (zof D.heap.size D);clear q F y f0 f1 f2 Y fl;go_wp2_with fail
 refine(P.out _ _ (by simp) B0.out).mono ?_
 rintro e w4 ⟨rfl,f⟩;have cc:=k.out w4 f.1.cov;have o:=zog _ _ cc;have H:=hid (zeL R.out f.1 0 10 n3 wf0 (by decide) (zb8 n3 (by omega)) (by have:=HC.out;simp only[zor,List.length_cons,List.length_nil];omega))
 have t:=hid (r.out.trans f.2);clear P f B0 r;dsimp only[MkrD.v]at H;go_wp2_with fail
 refine H.out.mono ?_;rintro e E ⟨rfl,f⟩;have cc:=k.out E f.1.cov;have o:=zog _ _ cc;have f0:=H0.out E f.1.cov;have f1:=S.out E f.1.cov;have fl:=zog _ _ f0;have K:=hid (zmm R.out f.1 ⟨g,ff⟩ V.out I.out (by have:=HC.out;simp only[kH,zor,List.length_cons,List.length_nil];omega))
 have G:=hid (t.out.trans f.2);clear H f t;dsimp only[MkrD.v]at K;go_wp2_with fail
 refine K.out.mono ?_;rintro e w6 ⟨rfl,f⟩;have f:=hid f;clear K;go_wp2;refine bodyPost_ret (v:=.tuple #[]) (by simp[results,Tryz.results109,go_sem]) rfl ⟨rfl,?_,G.out.trans f.out.2⟩
 rw[HX.out];have:=f.out.1.less J.out;simp only[List.append_assoc,List.cons_append,List.nil_append]at this ⊢;exact this
def IRow(w:World)(g:Nat)(l:List Int):Prop:=w.heap[g]?=some (.cells (l.map (Value.int .i64)).toArray 3 (0,0))
theorem IRow.cell{w:World}{g:Nat}{l:List Int}(h:IRow w g l){i:Nat}(hi:i<l.length):w.cell? ⟨g,i,none⟩=some (.int .i64 (l.getD i 0)):=by
 rw[zj h];simp[hi]
theorem IRow.fz{w:World}{g:Nat}{l:List Int}(h:IRow w g l)(i:Nat):w.frozen? ⟨g,i,none⟩=false:=by
 unfold IRow at h;simp[World.frozen?,h]
theorem IRow.lt{w:World}{g:Nat}{l:List Int}(h:IRow w g l):g<w.heap.size:=(zoj.1 h).1
theorem IRow.put{w:World}{g:Nat}{l:List Int}(h:IRow w g l)(i:Nat)(v:Int):IRow (w.setCell ⟨g,i,none⟩ (.int .i64 v)) g (l.set i v):=by
 unfold IRow;rw[yx h];congr 1
 congr 1
 apply Array.ext'
 simp[List.map_set]
theorem IRow.blk{w w':World}{g:Nat}{l:List Int}(h:IRow w g l)(e:w'.heap[g]?=w.heap[g]?):IRow w' g l:=e.trans h
theorem IRow.has{w:World}{g:Nat}{l:List Int}(h:IRow w g l)(hw:∀n∈l,(Lit.int .i64 n).wf=true){m:Nat}(a:l.length=m):Has .i64 w (some ⟨g,0,none⟩) m l:=
 ⟨a,hw,.inr ⟨g,0,rfl,h.lt,fun i hi=>by rw[zoK];exact h.cell (by omega)⟩⟩
theorem zcD(w:World)(m:Nat):IRow (w.alloc (.cells (Array.replicate m (.int .i64 0)) 3)) w.heap.size (List.replicate m 0):=by
 unfold IRow;rw[zK];simp
theorem zjE(m:Nat)(f:m<=1000):∀W:World,(Instr.makeSlice 23 (.int .i64 (m:Int)) (.int .i64 (m:Int))).run Tryz.prog W=.ok (.slice (some ⟨W.heap.size,0,none⟩) m m) (W.alloc (.cells (Array.replicate m (.int .i64 0)) 3)):=fun W=>by
 obtain⟨e,hi,c,b,d⟩:=info_parts Tryz.ainfoInt;have h:=run_make (P:=Tryz.prog) W 23 3 e _ Tryz.underlying23 hi c .i64 .i64 (m:Int) (m:Int) (by omega) (by omega) (by rw[d];omega) (by omega)
 rw[show((m:Int)).toNat=m by omega,b]at h
 have a:madeCells #[Value.int .i64 0] m=Array.replicate m (Value.int .i64 0):=Array.ext' (by rw[toList_madeCells_one];simp)
 rw[<-a];rw[Nat.mul_one]at h;exact h
def yV(s m:Nat):List Int:=(List.range m).map fun i=>((s+i:Nat):Int)
def jo(s m i:Nat):List Int:=(yV s i)++List.replicate (m-i) 0
theorem qY(s m:Nat):(yV s m).length=m:=by simp[yV]
theorem zbf{s m i:Nat}(h:i<=m):(jo s m i).length=m:=by simp[jo,yV];omega
theorem zbC(s m:Nat):jo s m 0=List.replicate m 0:=by simp[jo,yV]
theorem zcE(s m:Nat):jo s m m=yV s m:=by simp[jo]
theorem zbD{s m i:Nat}(h:i<m):(jo s m i).set i ((s+i:Nat):Int)=jo s m (i+1):=by
 unfold jo;rw[List.set_append,if_neg (by rw[qY];omega),qY,Nat.sub_self]
 have a:m-i=(m-(i+1))+1:=by omega
 rw[a,List.replicate_succ,List.set_cons_zero];simp[yV,List.range_succ]
theorem zeI{s m:Nat}{n:Int}(h:n∈yV s m):(s:Int)<=n/\n<((s+m:Nat):Int):=by
 simp only[yV,zoJ,List.mem_range]at h;obtain⟨i,hi,rfl⟩:=h;omega
theorem zlw{s m i:Nat}(h:i<m):(yV s m).getD i 0=((s+i:Nat):Int):=by
 simp[yV,h]
theorem znt{n:Int}(h:0<=n/\n<1000000):(Lit.int .i64 n).wf=true:=by
 simp[Lit.wf,IntKind.min,IntKind.max,IntKind.bits,IntKind.signed];omega
def zcF(a s m:Nat)(b:Array Value)(T:TypeId)(w:World)(e:Ending)(w':World):Prop:=
 e=.returned (.slice (some ⟨w.heap.size,0,none⟩) m m)/\IRow w' w.heap.size (yV s m)/\w'.heap[a]?=some (.cells (b.setIfInBounds 6 (.int .i64 ((s+m:Nat):Int))) T (0,0))/\w.grownBy w' (some a)
theorem zds{w:World}{a s m:Nat}{f:Array Value}{T:TypeId}(hb:w.heap[a]?=some (.cells f T (0,0)))(H:f[6]?=some (.int .i64 (s:Int)))(hs:s<=1000)(P:m<=1000):Calls Tryz.prog 70 #[.pointer (some ⟨a,0,none⟩),.int .i64 (m:Int)] w (zcF a s m f T w):=by
 have b:=(zoj.1 hb).1;obtain⟨x,hW1⟩:∃x,x=w.alloc (.cells (Array.replicate m (.int .i64 0)) 3):=⟨_,rfl⟩;obtain⟨g,hg⟩:∃g,g=w.heap.size:=⟨_,rfl⟩;have G:IRow x g (jo s m 0):=by rw[hW1,hg,zbC];exact zcD w m
 have B:Below w.heap.size w x:=by rw[hW1];exact ze (zof _ _)
 have h:x.heap[a]?=some (.cells f T (0,0)):=(B.block a b).trans hb;have E:=zjE m P;have u:=hid G;have r:=hid h;have n:=hid B;have M:=hid H;have D:¬g=a:=by omega
 have o:¬a=g:=by omega
 have U:=hid hW1;have y:=hid hg;have K:=hid b;clear hb H hW1 hg G B h b;go_enter Tryz.func70,Tryz.ntmps70
 go_wp2;rw[<-U.out,<-y.out];clear E;go_loopw [11,6] (fun k _ wr=>∃i:Nat,i<=m/\k=.int .i64 i/\Hid (IRow wr g (jo s m i)/\wr.heap[a]?=some (.cells f T (0,0))/\Below w.heap.size w wr)) (fun k _ _=>m-(intOf k).toNat)
 case atStart=>exact⟨0,zon _,rfl,u.out,r.out,n.out⟩
 case round=>
  obtain⟨i,hi,rfl,J⟩:=hrel;obtain⟨d,JB,c⟩:=J.out;have c6:=(zj JB 6).trans M.out;have b:=(zoj.1 JB).1;have O:=d.lt;by_cases j:i<m
  ·have F:(i:Int)<(m:Int):=by omega
   have V:=d.cell (i:=i) (by rw[zbf hi];exact j)
   have fz:=d.fz i;have I:=hid (d.put i ((s+i:Nat):Int));have Q:=hid ((zop wr ⟨g,i,none⟩ (.int .i64 ((s+i:Nat):Int)) a (by exact o)).trans JB)
   have L:=hid (c.setCell (p:=⟨g,i,none⟩) (by show w.heap.size<=g;rw[y.out];exact zos _) (.int .i64 ((s+i:Nat):Int)))
   rw[zbD j]at I;have R:(s:Int)+(i:Int)=((s+i:Nat):Int):=by omega
   generalize C:s+i=q at*;have A:q<=2000:=by omega
   clear d JB c J C;generalize(jo s m i).getD i 0=z at*;go_wp2;go_roundw
   case rel=>exact⟨i+1,by omega,by go_num,I.out,Q.out,L.out⟩
   case measure=>simp[intOf];omega
  ·have F:¬(i:Int)<(m:Int):=by omega
   obtain rfl:i=m:=by omega
   have W:wr.frozen? ⟨a,6,none⟩=false:=by simp[World.frozen?,JB]
   have S:(s:Int)+(i:Int)=((s+i:Nat):Int):=by omega
   have l:Hid (zcF a s i f T w (.returned (.slice (some ⟨g,0,none⟩) i i)) (wr.setCell ⟨a,6,none⟩ (.int .i64 ((s+i:Nat):Int)))):=by
    refine⟨by rw[y.out],?_,yx JB 6 _,⟨c.os,c.tape,c.output,by rw[zow];exact c.size,fun k N t=>?_⟩⟩
    ·rw[<-y.out,<-zcE];exact d.blk (zop _ _ _ _ (by exact D))
    ·rw[zop _ _ _ _ (by show k≠a;exact fun e=>t (by rw[e]))]
     exact c.block k N
   generalize C:s+i=q at*;have A:q<=2000:=by omega
   clear d JB c J C u r n;go_wp2;exact bodyPost_ret (v:=.slice (some ⟨g,0,none⟩) i i) (by simp[results,Tryz.results70,go_sem]) rfl l.out
def zmn(n:Nat)(w:World)(e:Ending)(w':World):Prop:=e=.returned (.slice (some ⟨w.heap.size,0,none⟩) n n)/\IRow w' w.heap.size (yV 0 n)/\Below w.heap.size w w'
theorem zn0{w:World}{t lo n:Nat}(c6:w.cell? ⟨t,lo+6,none⟩=some (.int .i64 (n:Int)))(y:n<=1000):Calls Tryz.prog 41 #[.pointer (some ⟨t,lo,none⟩)] w (zmn n w):=by
 have l:=zog _ _ c6;obtain⟨j,hW1⟩:∃j,j=w.alloc (.cells (Array.replicate n (.int .i64 0)) 3):=⟨_,rfl⟩;obtain⟨g,hg⟩:∃g,g=w.heap.size:=⟨_,rfl⟩;have q:IRow j g (jo 0 n 0):=by rw[hW1,hg,zbC];exact zcD w n
 have r:Below w.heap.size w j:=by rw[hW1];exact ze (zof _ _)
 have m:=zjE n y;have e:=hid q;have d:=hid r;have A:=hid hW1;have f:=hid hg;clear hW1 hg q r;go_enter Tryz.func41,Tryz.ntmps41
 go_wp2;rw[<-A.out,<-f.out];clear m c6 l;go_loopw [12,4] (fun k _ wr=>∃i:Nat,i<=n/\k=.int .i64 i/\Hid (IRow wr g (jo 0 n i)/\Below w.heap.size w wr)) (fun k _ _=>n-(intOf k).toNat)
 case atStart=>exact⟨0,zon _,rfl,e.out,d.out⟩
 case round=>
  obtain⟨i,hi,rfl,J⟩:=hrel;obtain⟨a,h⟩:=J.out;have x:=a.lt;by_cases b:i<n
  ·have o:(i:Int)<(n:Int):=by omega
   have B:=a.cell (i:=i) (by rw[zbf hi];exact b)
   have fz:=a.fz i;have s:=hid (a.put i ((0+i:Nat):Int));rw[zbD b,zoK]at s;have u:=hid (h.setCell (p:=⟨g,i,none⟩) (by show w.heap.size<=g;rw[f.out];exact zos _) (.int .i64 (i:Int)))
   clear a h J;generalize(jo 0 n i).getD i 0=z at*;go_wp2;go_roundw
   case rel=>exact⟨i+1,by omega,by go_num,s.out,u.out⟩
   case measure=>simp[intOf];omega
  ·have o:¬(i:Int)<(n:Int):=by omega
   obtain rfl:i=n:=by omega
   have c:Hid (zmn i w (.returned (.slice (some ⟨g,0,none⟩) i i)) wr):=⟨by rw[f.out],by rw[<-f.out,<-zcE];exact a,h⟩
   clear a h J e d;go_wp2;exact bodyPost_ret (v:=.slice (some ⟨g,0,none⟩) i i) (by simp[results,Tryz.results41,go_sem]) rfl c.out
structure FE where
 g : Nat
 s : Nat
 n : Nat
@[reducible] def FE.v(x:FE):Value:=.slice (some ⟨x.g,0,none⟩) x.n x.n
theorem Tryz.ninfoSl:(Tryz.prog.info? 23).map (fun i=>(i.zero,i.size,i.bytes))=some (some (.slice none 0 0),1,24):=by kernel_rfl
@[reducible] def zbg(b:Option Addr)(n a S:Nat):Array Value:= #[.slice b n a,.slice none 0 0,.slice none 0 0,.int .i64 0,.slice none 0 0,.slice none 0 0,.int .i64 (S:Int)]
structure LFs (W3 : World) (lb : Nat) (fl : List FE) (fa : Option Addr) (fc S : Nat) (w : World) : Prop where
 box : w.heap[lb]? = some (.cells (zbg fa fl.length fc S) 91 (0, 0))
 row : w.ownsRow W3.heap.size 23 1 (.slice fa fl.length fc) fl.length (fl.map FE.v)
 ins : ∀ x ∈ fl, W3.heap.size <= x.g /\ IRow w x.g (yV x.s x.n)
 gr : W3.grownBy w (some lb)
 ll : lb < W3.heap.size
theorem zlx{a:World}{b:Nat}(h:a.heap[b]?=some (.cells (zbg none 0 0 0) 91 (0,0))):LFs a b [] none 0 0 a:=
 ⟨h,zoH _ _ _ _,fun x c=>by simp at c,⟨rfl,rfl,rfl,zos _,fun _ _ _=>rfl⟩,(zoj.1 h).1⟩
theorem zjF{b:World}{a:Nat}{fl:List FE}{d:Option Addr}{c S:Nat}{w:World}(h:LFs b a fl d c S w):LFs b a fl d c S w.drew:=
 ⟨h.box,zZ h.row (zof _ _).drew,h.ins,⟨h.gr.os,h.gr.tape,h.gr.output,h.gr.size,h.gr.block⟩,h.ll⟩
theorem zdt{e:World}{c:Nat}{fl:List FE}{i:Option Addr}{g S:Nat}{w w':World}(h:LFs e c fl i g S w)(b:Below w.heap.size w w'):LFs e c fl i g S w':=by
 have j:=(zoj.1 h.box).1;refine⟨(b.block c j).trans h.box,zZ h.row b,fun x a=>⟨(h.ins x a).1,(h.ins x a).2.blk (b.block _ (h.ins x a).2.lt)⟩,⟨b.os.trans h.gr.os,b.tape.trans h.gr.tape,b.output.trans h.gr.output,zoz h.gr.size b.size,fun k f d=>?_⟩,h.ll⟩
 rw[b.block k (zom f h.gr.size)];exact h.gr.block k f d
theorem zjG{f:World}{c:Nat}{fl:List FE}{l:Option Addr}{j S m:Nat}{w:World}{e:Ending}{w':World}(h:LFs f c fl l j S w)(n:zcF c S m (zbg l fl.length j S) 91 w e w'):LFs f c fl l j (S+m) w'/\IRow w' w.heap.size (yV S m)/\f.heap.size<=w.heap.size:=by
 obtain⟨_,hr,hb,a⟩:=n;have b:∀k,f.heap.size<=k->some k≠some c:=fun k i e=>by have:=h.ll;simp only[zoo]at e;omega
 refine⟨⟨hb,h.row.kept a ?_,fun x g=>⟨(h.ins x g).1,(h.ins x g).2.blk (a.block _ (h.ins x g).2.lt (b _ (h.ins x g).1))⟩,⟨a.os.trans h.gr.os,a.tape.trans h.gr.tape,a.output.trans h.gr.output,zoz h.gr.size a.size,fun k i d=>?_⟩,h.ll⟩,hr,h.gr.size⟩
 ·right
  intro e;exact b _ (h.row.lt c e).1 rfl
 ·rw[a.block k (zom i h.gr.size) d];exact h.gr.block k i d
theorem zjH{A:World}{i:Nat}{fl:List FE}{y:Option Addr}{H S g s n:Nat}{w:World}(h:LFs A i fl y H S w)(hr:IRow w g (yV s n))(K:A.heap.size<=g)(Q:fl.length<=1000):
 ∃t cap w',(Builtin.append_ #[89,89] 89 #[.slice y fl.length H,.slice (some ⟨w.heap.size,0,none⟩) 1 1]).run Tryz.prog (w.alloc (.cells #[.slice (some ⟨g,0,none⟩) n n] 23))=.ok (.slice (some ⟨t,0,none⟩) (fl.length+1) cap) w'/\w'.cell? ⟨i,0,none⟩=some (.slice y fl.length H)/\w'.frozen? ⟨i,0,none⟩=false/\i<w'.heap.size/\(∀(k:Nat) (c:Array Value) (T:TypeId) (f:Nat × Nat),w.heap[k]?=some (.cells c T f)->T≠23->w'.heap[k]?=some (.cells c T f))/\
  LFs A i (fl++[⟨g,s,n⟩]) (some ⟨t,0,none⟩) cap S (w'.setCell ⟨i,0,none⟩ (.slice (some ⟨t,0,none⟩) (fl.length+1) cap)):=by
 have F:Below w.heap.size w (w.alloc (.cells #[.slice (some ⟨g,0,none⟩) n n] 23)):=ze (zof _ _);have a:=zdt h F;obtain⟨t,cap,w',C,L,j,P⟩:=za9 (w:=w.alloc (.cells #[.slice (some ⟨g,0,none⟩) n n] 23)) (ad:=⟨w.heap.size,0,none⟩) (m:=1) (c:=1) (news:=[.slice (some ⟨g,0,none⟩) n n]) 89 Tryz.underlying89 Tryz.ninfoSl rfl (by decide) a.row rfl (za8 (cs:=[.slice (some ⟨g,0,none⟩) n n])) (by intro u M;simp only[List.mem_singleton]at M;subst M;rfl) (by decide) (by unfold maxLen;omega) (by omega) (zoz h.gr.size F.size)
 have r:∀k,A.heap.size<=k->k≠i:=fun k d e=>by have:=h.ll;omega
 have G:w'.heap[i]?=some (.cells (zbg y fl.length H S) 91 (0,0)):=by
  rw[j.block i (zoj.1 a.box).1 ?_]
  ·exact a.box
  ·intro e;exact r _ (a.row.lt i e.symm).1 rfl
 have o:∀k l,IRow (w.alloc (.cells #[.slice (some ⟨g,0,none⟩) n n] 23)) k l->IRow w' k l:=fun k l d=>d.blk (j.block k d.lt fun e=>by
  have h2:=a.row;cases b:y with
  |none=>rw[b]at e;simp[Value.ownBlock]at e
  |some ad=>
   rw[b]at e;simp only[Value.ownBlock,zoo]at e;exact jc h2 d (by decide) b e.symm)
 have I:i<w'.heap.size:=(zoj.1 G).1;have E:t≠i:=r _ (L.lt t rfl).1;have B:∀(k:Nat) (c:Array Value) (T:TypeId) (f:Nat × Nat),w.heap[k]?=some (.cells c T f)->T≠23->w'.heap[k]?=some (.cells c T f):=fun k c T f d O=>by
  have q:=(F.block k (zoj.1 d).1).trans d;rw[j.block k (zoj.1 q).1 fun e=>?_]
  ·exact q
  ·cases b:y with
   |none=>rw[b]at e;simp[Value.ownBlock]at e
   |some ad=>
    rw[b]at e;simp only[Value.ownBlock,zoo]at e;exact jc a.row q O b e.symm
 refine⟨t,cap,w',C,zj G 0,by simp[World.frozen?,G],I,B,⟨?_,?_,fun x J=>?_,⟨j.os.trans a.gr.os,j.tape.trans a.gr.tape,j.output.trans a.gr.output,by rw[zow];exact zoz a.gr.size j.size,fun k d D=>?_⟩,h.ll⟩⟩
 ·rw[yx G 0];simp
 ·have N:(fl++[(⟨g,s,n⟩:FE)]).map FE.v=fl.map FE.v++[.slice (some ⟨g,0,none⟩) n n]:=by simp
  rw[N,zor];refine xA L fun ad ha=>?_
  obtain rfl:=zoq ha;exact zop _ _ _ _ (by exact E)
 ·have d:A.heap.size<=x.g/\IRow w' x.g (yV x.s x.n):=by
   rcases List.mem_append.1 J with h2|h2
   ·exact⟨(a.ins x h2).1,o _ _ (a.ins x h2).2⟩
   ·simp only[List.mem_singleton]at h2;subst h2;exact⟨K,o _ _ (hr.blk (F.block _ hr.lt))⟩
  exact⟨d.1,d.2.blk (zop _ _ _ _ (by show x.g≠i;exact r _ d.1))⟩
 ·rw[zop _ _ _ _ (by show k≠i;exact fun e=>D (by rw[e])),j.block k (zom d a.gr.size) ?_]
  ·exact a.gr.block k d D
  ·intro e;have:=(a.row.lt k e.symm).1;omega
def prs(lens:List Nat):Nat->List (Nat × Nat)
 |0=>[]
 |i+1=>prs lens i++[((lens.take i).sum,lens.getD i 0)]
theorem zeJ{lens:List Nat}{i:Nat}(h:i<lens.length):(lens.take i).sum+lens.getD i 0=(lens.take (i+1)).sum:=by
 rw[zoI,zoh h,List.sum_append,zoi,zoh h];simp
theorem zjI(lens:List Nat)(i:Nat):(lens.take i).sum<=lens.sum:=by
 conv=>rhs;rw[<-List.take_append_drop i lens,List.sum_append]
 omega
structure zgW (lens : List Nat) (H Mn : Nat) (L : LayD) : Prop where
 fl : L.fl.map HeadD.ws = (prs lens lens.length).map fun x => yV x.1 x.2
 tl : L.tl = yV lens.sum H
 ml : L.ml = yV (lens.sum + H) Mn
 port : L.port = ((lens.sum + H + Mn : Nat) : Int)
 kl : L.kl = yV (lens.sum + H + Mn + 1) 3
 sl : L.sl = yV (lens.sum + H + Mn + 1 + 3) 3
 slots : L.slots = ((lens.sum + H + Mn + 1 + 3 + 3 : Nat) : Int)
@[reducible] def LayD.v(L:LayD):Value:=.agg #[.slice L.fs.a L.fs.n L.fs.c,.slice L.th.a L.th.n L.th.c,.slice L.me.a L.me.n L.me.c,.int .i64 L.port,.slice L.ke.a L.ke.n L.ke.c,.slice L.sa.a L.sa.n L.sa.c,.int .i64 L.slots]
def znu(lens:List Nat)(H Mn:Nat)(w:World)(e:Ending)(w':World):Prop:=
 ∃L:LayD,e=.returned L.v/\zgW lens H Mn L/\Below w.heap.size w w'/\∀a:World,w'.heap.size<=a.heap.size->(∀k,w.heap.size<=k->k<w'.heap.size->a.heap[k]?=w'.heap[k]?)->L.lie a
structure LRest (W3 : World) (lb : Nat) (fl : List FE) (fa : Option Addr) (fc : Nat) (vs : Array Value) (w : World) : Prop where
 box : w.heap[lb]? = some (.cells vs 91 (0, 0))
 row : w.ownsRow W3.heap.size 23 1 (.slice fa fl.length fc) fl.length (fl.map FE.v)
 ins : ∀ x ∈ fl, W3.heap.size <= x.g /\ IRow w x.g (yV x.s x.n)
 gr : W3.grownBy w (some lb)
 ll : lb < W3.heap.size
theorem LFs.rest{d:World}{c:Nat}{fl:List FE}{b:Option Addr}{a S:Nat}{w:World}(h:LFs d c fl b a S w):LRest d c fl b a (zbg b fl.length a S) w:=⟨h.box,h.row,h.ins,h.gr,h.ll⟩
theorem jq{d:World}{b:Nat}{fl:List FE}{y:Option Addr}{u:Nat}{t:Array Value}{w:World}(h:LRest d b fl y u t w){S m:Nat}{e:Ending}{w':World}(A:zcF b S m t 91 w e w')(i:Nat)(v:Value):
 LRest d b fl y u ((t.setIfInBounds 6 (.int .i64 ((S+m:Nat):Int))).setIfInBounds i v) (w'.setCell ⟨b,i,none⟩ v)/\IRow (w'.setCell ⟨b,i,none⟩ v) w.heap.size (yV S m)/\d.heap.size<=w.heap.size/\(∀g l,d.heap.size<=g->IRow w g l->IRow (w'.setCell ⟨b,i,none⟩ v) g l):=by
 obtain⟨_,hr,hb,n⟩:=A;have j:∀k,d.heap.size<=k->some k≠some b:=fun k f e=>by have:=h.ll;simp only[zoo]at e;omega
 have c:∀k,d.heap.size<=k->k≠b:=fun k f e=>j k f (by rw[e])
 have a:∀k,k≠b->(w'.setCell ⟨b,i,none⟩ v).heap[k]?=w'.heap[k]?:=fun k f=>zop _ _ _ _ (by exact f)
 have q:∀g l,d.heap.size<=g->IRow w g l->IRow (w'.setCell ⟨b,i,none⟩ v) g l:=fun g l r hi=>hi.blk ((a g (c g r)).trans (n.block g hi.lt (j g r)))
 refine⟨⟨yx hb i v,xA (h.row.kept n (.inr fun e=>j _ (h.row.lt b e).1 rfl)) fun ad ha=>a _ (c _ ?_),fun x s=>⟨(h.ins x s).1,q _ _ (h.ins x s).1 (h.ins x s).2⟩,⟨n.os.trans h.gr.os,n.tape.trans h.gr.tape,n.output.trans h.gr.output,by rw[zow];exact zoz h.gr.size n.size,fun k f o=>?_⟩,h.ll⟩,hr.blk (a _ (c _ h.gr.size)),h.gr.size,q⟩
 ·exact(h.row.lt ad.block (by rw[ha];rfl)).1
 ·rw[a k (fun e=>o (by rw[e])),n.block k (zom f h.gr.size) o]
  exact h.gr.block k f o
@[reducible] def zly(fl:List FE)(e:Option Addr)(H b a d f c S Mn:Nat):LayD:=⟨⟨e,H,b⟩,fl.map (fun x=>⟨⟨some ⟨x.g,0,none⟩,x.n,x.n⟩,yV x.s x.n⟩),⟨some ⟨a,0,none⟩,H,H⟩,yV S H,⟨some ⟨d,0,none⟩,Mn,Mn⟩,yV (S+H) Mn,((S+H+Mn:Nat):Int),⟨some ⟨f,0,none⟩,3,3⟩,yV (S+H+Mn+1) 3,⟨some ⟨c,0,none⟩,3,3⟩,yV (S+H+Mn+1+3) 3,((S+H+Mn+1+3+3:Nat):Int)⟩
theorem jr{w:World}{g s m:Nat}(h:IRow w g (yV s m))(hs:s+m<=5000):Has .i64 w (some ⟨g,0,none⟩) m (yV s m):=
 h.has (fun n a=>znt (by have:=zeI a;omega)) (qY s m)
theorem zlz{b:World}{M:Nat}{fl:List FE}{B:Option Addr}{t:Nat}{F:Array Value}{w:World}(h:LRest b M fl B t F w){H q A j u S Mn:Nat}(Q:fl.length=H)(f:∀x∈fl,x.s+x.n<=3000)(U:S+H+Mn<=3000)(r1:IRow w q (yV S H))(O:IRow w A (yV (S+H) Mn))(J:IRow w j (yV (S+H+Mn+1) 3))(N:IRow w u (yV (S+H+Mn+1+3) 3))
 (L:b.heap.size<=q) (K:b.heap.size<=A) (P:b.heap.size<=j) (G:b.heap.size<=u) (d:World) (E:∀k,b.heap.size<=k->k<w.heap.size->d.heap[k]?=w.heap[k]?):(zly fl B H t q A j u S Mn).lie d:=by
 have c:∀g l,b.heap.size<=g->IRow w g l->IRow d g l:=fun g l I hi=>hi.blk (E g I hi.lt)
 refine⟨⟨by rw[zoE];exact Q,fun i x D=>?_⟩,jr (m:=H) (c _ _ L r1) (by omega),jr (m:=Mn) (c _ _ K O) (by omega),jr (m:=3) (c _ _ P J) (by omega),jr (m:=3) (c _ _ G N) (by omega)⟩
 rw[zoy]at D;obtain⟨y,r,rfl⟩:=Option.map_eq_some_iff.1 D;have hi:i<fl.length:=(zok.1 r).1;have a:d.ownsRow b.heap.size 23 1 (.slice B fl.length t) fl.length (fl.map FE.v):=xA h.row fun ad ha=>E _ (h.row.lt ad.block (by rw[ha];rfl)).1 (h.row.lt ad.block (by rw[ha];rfl)).2
 rcases a.2 with⟨e,_⟩|⟨g,cap,R,e,_⟩
 ·simp only[zox]at e;omega
 ·simp only[zox,true_and]at e;rw[e.1]at a;have C:=a.cellAt i (by omega)
  rw[zoy,r]at C;have o:=zol r;refine⟨g,0,e.1,⟨?_,fun T=>by simp at T⟩,jr (m:=y.n) (c _ _ (h.ins y o).1 (h.ins y o).2) (by have:=f y o;omega)⟩
  rw[Nat.mul_one,zoK];exact C
theorem zlA(lens:List Nat):∀i,i<=lens.length->∀x∈prs lens i,x.1+x.2<=lens.sum:=by
 intro i;induction i with
 |zero=>intro _ x a;simp[prs]at a
 |succ i ih=>
  intro hi x a;rcases List.mem_append.1 a with h|h
  ·exact ih (by omega) x h
  ·simp only[List.mem_singleton]at h;subst h;show(lens.take i).sum+lens.getD i 0<=lens.sum;rw[zeJ (by omega)]
   exact zjI lens (i+1)
theorem zlB(d:PlanD)(w:World)(hl:d.lie w)(lens:List Nat)(b9:d.hs.map (fun x=>x.w.n)=lens)(Y:lens.sum+d.heads.n+d.mta.n<=900)(d3:∀n∈lens,n<=900):Calls Tryz.prog 37 #[d.v] w (znu lens d.heads.n d.mta.n w):=by
 obtain⟨pb,hpb⟩:∃b,b=w.heap.size:=⟨_,rfl⟩;obtain⟨rb,hrb⟩:∃b,b=w.heap.size+1:=⟨_,rfl⟩;obtain⟨lb,hlb⟩:∃b,b=w.heap.size+1+1:=⟨_,rfl⟩;obtain⟨u,hW3⟩:∃u,u=((w.alloc (.cells #[.slice d.heads.a d.heads.n d.heads.c,.slice d.mta.a d.mta.n d.mta.c,.slice d.states.a d.states.n d.states.c,.slice d.acts.a d.acts.n d.acts.c,.slice d.tabs.a d.tabs.n d.tabs.c,.slice d.nodes.a d.nodes.n d.nodes.c,.slice d.out.a d.out.n d.out.c] 29)).alloc (.cells (zbg none 0 0 0) 91)).alloc (.cells (zbg none 0 0 0) 91):=⟨_,rfl⟩;have I:Below w.heap.size w u:=by rw[hW3];exact ze (ze (ze (zof _ _)))
 have hP:u.heap[pb]?=some (.cells #[.slice d.heads.a d.heads.n d.heads.c,.slice d.mta.a d.mta.n d.mta.c,.slice d.states.a d.states.n d.states.c,.slice d.acts.a d.acts.n d.acts.c,.slice d.tabs.a d.tabs.n d.tabs.c,.slice d.nodes.a d.nodes.n d.nodes.c,.slice d.out.a d.out.n d.out.c] 29 (0,0)):=by
  rw[hW3,hpb,Below.heap_alloc _ _ _ (by simp;omega),Below.heap_alloc _ _ _ (by simp)]
  exact zK _ _ _
 have hR:u.heap[rb]?=some (.cells (zbg none 0 0 0) 91 (0,0)):=by
  rw[hW3,hrb,Below.heap_alloc _ _ _ (by simp)]
  have:=zK (w.alloc (.cells #[.slice d.heads.a d.heads.n d.heads.c,.slice d.mta.a d.mta.n d.mta.c,.slice d.states.a d.states.n d.states.c,.slice d.acts.a d.acts.n d.acts.c,.slice d.tabs.a d.tabs.n d.tabs.c,.slice d.nodes.a d.nodes.n d.nodes.c,.slice d.out.a d.out.n d.out.c] 29)) (zbg none 0 0 0) 91;simpa using this
 have e5:LFs u lb [] none 0 0 u:=zlx (by
  rw[hW3,hlb];have:=zK ((w.alloc (.cells #[.slice d.heads.a d.heads.n d.heads.c,.slice d.mta.a d.mta.n d.mta.c,.slice d.states.a d.states.n d.states.c,.slice d.acts.a d.acts.n d.acts.c,.slice d.tabs.a d.tabs.n d.tabs.c,.slice d.nodes.a d.nodes.n d.nodes.c,.slice d.out.a d.out.n d.out.c] 29)).alloc (.cells (zbg none 0 0 0) 91)) (zbg none 0 0 0) 91;simpa using this)
 have e0:¬pb=lb:=by omega
 have a1:¬rb=lb:=by omega
 have i1:¬pb=rb:=by omega
 have s3:u.heap.size=w.heap.size+3:=by rw[hW3];simp
 have E:Hid (∀w',u.grownBy w' (some lb)->w'.heap[pb]?=some (.cells #[.slice d.heads.a d.heads.n d.heads.c,.slice d.mta.a d.mta.n d.mta.c,.slice d.states.a d.states.n d.states.c,.slice d.acts.a d.acts.n d.acts.c,.slice d.tabs.a d.tabs.n d.tabs.c,.slice d.nodes.a d.nodes.n d.nodes.c,.slice d.out.a d.out.n d.out.c] 29 (0,0))):=fun w' h=>by
  rw[h.block pb (by omega) (by simpa using e0)]
  exact hP
 have f7:Hid (∀w',u.grownBy w' (some lb)->w'.heap[rb]?=some (.cells (zbg none 0 0 0) 91 (0,0))):=fun w' h=>by
  rw[h.block rb (by omega) (by simpa using a1)]
  exact hR
 have g9:Hid (∀w',u.grownBy w' (some lb)->d.lie w'):=fun w' h=>hl.step ⟨h.os.trans I.os,h.tape.trans I.tape,h.output.trans I.output,zoz I.size h.size,fun k hk=>by
  rw[h.block k (by omega) (by simp only[ne_eq,zoo];omega),I.block k hk]⟩
 have f3:Hid (∀w',u.grownBy w' (some lb)->Below w.heap.size w w'):=fun w' h=>⟨h.os.trans I.os,h.tape.trans I.tape,h.output.trans I.output,zoz I.size h.size,fun k hk=>by
  rw[h.block k (by omega) (by simp only[ne_eq,zoo];omega),I.block k hk]⟩
 have hn:lens.length=d.heads.n:=by rw[<-b9,zoE];exact hl.hs.1
 have HN:=hid hn;have h6:=hid b9;have a0:=hid Y;have e9:=hid d3;have f2:=hid e5;have c0:=(zj hP 0).trans (rfl:_=some (Value.slice d.heads.a d.heads.n d.heads.c));have F:=(zoj.1 hP).1;have i7:d.heads.n<=900:=by omega
 have EW:Hid (u=((w.alloc (.cells #[.slice d.heads.a d.heads.n d.heads.c,.slice d.mta.a d.mta.n d.mta.c,.slice d.states.a d.states.n d.states.c,.slice d.acts.a d.acts.n d.acts.c,.slice d.tabs.a d.tabs.n d.tabs.c,.slice d.nodes.a d.nodes.n d.nodes.c,.slice d.out.a d.out.n d.out.c] 29)).alloc (.cells #[.slice none 0 0,.slice none 0 0,.slice none 0 0,.int .i64 0,.slice none 0 0,.slice none 0 0,.int .i64 0] 91)).alloc (.cells #[.slice none 0 0,.slice none 0 0,.slice none 0 0,.int .i64 0,.slice none 0 0,.slice none 0 0,.int .i64 0] 91)):=hW3;have EP:=hid hpb;have ER:=hid hrb;have EL:=hid hlb;have ES:=hid s3;clear hl b9 Y d3 hn hW3 hpb hrb hlb I hP hR e5 s3;go_enter Tryz.func37,Tryz.ntmps37
 go_upto_region 2 with fail
 rw[<-EW.out,<-EL.out,<-ER.out,<-EP.out];go_wp2;go_loopw [9,5] (fun k _ wr=>∃i:Nat,i<=d.heads.n/\k=.int .i64 i/\Hid (∃fl t r,LFs u lb fl t r (lens.take i).sum wr/\fl.length=i/\fl.map (fun x=>(x.s,x.n))=prs lens i)) (fun k _ _=>d.heads.n-(intOf k).toNat)
 case atStart=>exact⟨0,zon _,rfl,[],none,0,f2.out,rfl,rfl⟩
 case round=>
  obtain⟨i,hi,rfl,J⟩:=hrel;obtain⟨fl,t,r,V,jn,jp⟩:=J.out;clear J c0 F;by_cases a9:i<d.heads.n
  ·have f6:(i:Int)<(d.heads.n:Int):=by omega
   obtain⟨g,off,x,ea,hx,hp⟩:=zV (g9.out wr V.gr).hs a9;rw[Nat.mul_one]at hp;have cx:=hp.1.1;have i6:=zog _ _ cx;have b7:lens.getD i 0=x.w.n:=by rw[<-h6.out,zoi,zoy,hx];rfl
   have i4:x.w.n<=900:=by rw[<-b7,zoi,zoh (by rw[HN.out];exact a9)];exact e9.out _ (List.getElem_mem _)
   obtain⟨hb,hhb⟩:∃b,b=wr.heap.size:=⟨_,rfl⟩;obtain⟨Z,hW4⟩:∃Z,Z=wr.alloc (.cells #[.slice x.w.a x.w.n x.w.c] 55):=⟨_,rfl⟩;have b4:Below wr.heap.size wr Z:=by rw[hW4];exact ze (zof _ _)
   have hH:Z.heap[hb]?=some (.cells #[.slice x.w.a x.w.n x.w.c] 55 (0,0)):=by rw[hW4,hhb];exact zK _ _ _
   have L4:=zjF (zdt V b4);have a4:hb≠lb:=by have:=V.ll;have:=V.gr.size;omega
   have j:=hid (zds (m:=x.w.n) (s:=(lens.take i).sum) L4.box rfl (by have:=zjI lens i;have:=a0.out;omega) (by omega))
   have b8:=(zj L4.box 0).trans (rfl:_=some (Value.slice t fl.length r));have d1:=(zj hH 0).trans (rfl:_=some (Value.slice x.w.a x.w.n x.w.c));have c8:=(zoj.1 hH).1;have i3:=(zoj.1 L4.box).1;have b6:=hid L4;have HH:=hid hH;have JN:=hid jn;have JP:=hid jp;have h8:=hid hW4;have EH:=hid hhb;have EA:=hid ea;have e4:=hid b7;have f9:=hid a4;rw[jn]at b8 j;have c0:=(zj (E.out wr V.gr) 0).trans (rfl:_=some (Value.slice d.heads.a d.heads.n d.heads.c));have F:=(zoj.1 (E.out wr V.gr)).1;clear hp hx L4 hH jn jp hW4 hhb b7 b4 V a4;rw[ea]at c0;rw[ea];clear ea;go_upto_region 5 with fail
   rw[<-h8.out,<-EH.out];refine zde 8 (by kernel_rfl) (by kernel_rfl) ?_
   refine wpAny_of_held (S:=(fun w'=>w'.cell? ⟨lb,0,none⟩=some (.slice t i r)/\w'.cell? ⟨hb,0,none⟩=some (.slice x.w.a x.w.n x.w.c))) _ _ _ _ ?_
   have f:(fun w'=>w'.cell? ⟨lb,0,none⟩=some (.slice t i r)/\w'.cell? ⟨hb,0,none⟩=some (.slice x.w.a x.w.n x.w.c)) Z.drew:=⟨b8,d1⟩
   refine wpAnyH_take (i:=0) (v:=?_) (jL rfl) (by kernel_rfl) (by kernel_rfl) (by kernel_rfl) (fun _ _ _ h=>h) (Or.inl ⟨by rfl,?_⟩) f ?_
   rotate_left
   ·intro w0 y;try dsimp only at y
    go_simp
    try with_reducible rfl
   try simp only[Act.put,List.setIfInBounds_toArray,List.set_cons_zero,List.set_cons_succ]
   refine wpAnyH_take (i:=1) (v:=?_) (jL rfl) (by kernel_rfl) (by kernel_rfl) (by kernel_rfl) (fun _ _ _ h=>h) (Or.inl ⟨by rfl,?_⟩) f ?_
   rotate_left
   ·intro w0 y;try dsimp only at y
    go_simp
    try with_reducible rfl
   try simp only[Act.put,List.setIfInBounds_toArray,List.set_cons_zero,List.set_cons_succ]
   refine wpAnyH_take (i:=2) (v:=?_) (jL rfl) (by kernel_rfl) (by kernel_rfl) (by kernel_rfl) (fun _ _ _ h=>h) (Or.inl ⟨by rfl,?_⟩) f ?_
   rotate_left
   ·intro w0 y;try dsimp only at y
    go_simp
    try with_reducible rfl
   try simp only[Act.put,List.setIfInBounds_toArray,List.set_cons_zero,List.set_cons_succ]
   refine wpAnyH_take (i:=3) (v:=?_) (jL rfl) (by kernel_rfl) (by kernel_rfl) (by kernel_rfl) (fun _ _ _ h=>h) (Or.inl ⟨by rfl,?_⟩) f ?_
   rotate_left
   ·intro w0 y;try dsimp only at y
    go_simp
    try with_reducible rfl
   try simp only[Act.put,List.setIfInBounds_toArray,List.set_cons_zero,List.set_cons_succ]
   refine wpAnyH_take (i:=4) (v:=?_) (jL rfl) (by kernel_rfl) (by kernel_rfl) (by kernel_rfl) (fun _ _ _ h=>h) (Or.inl ⟨by rfl,?_⟩) f ?_
   rotate_left
   ·intro w0 y;try dsimp only at y
    go_simp
    try with_reducible rfl
   try simp only[Act.put,List.setIfInBounds_toArray,List.set_cons_zero,List.set_cons_succ]
   refine wpAnyH_ready (rs:=[5]) (by kernel_rfl) (by simp) ?_
   refine AllReadyH.cons (jL rfl) (fun K hK=>?_) AllReadyH.nil
   go_simp
   go_at_call 70
   refine j.out.mono ?_;intro e w5 l;have D:=l;obtain⟨rfl,_,_,e3⟩:=l;have D:zcF lb (lens.take i).sum x.w.n (zbg t fl.length r (lens.take i).sum) 91 Z.drew (.returned (.slice (some ⟨Z.drew.heap.size,0,none⟩) x.w.n x.w.n)) w5:=by rw[JN.out];exact D
   obtain⟨L5,R5,_⟩:=zjG b6.out D;have b0:=(e3.block hb c8 (by simpa using f9.out)).trans HH.out
   obtain⟨M,cap,w7,L,k0,kz,kl,a2,L7⟩:=zjH (s:=(lens.take i).sum) (n:=x.w.n) L5 R5 b6.out.gr.size (by rw[JN.out];omega)
   have b2:=(zj b0 0).trans (rfl:_=some (Value.slice x.w.a x.w.n x.w.c));have e1:=(zj (a2 hb _ _ _ b0 (by decide)) 0).trans (rfl:_=some (Value.slice x.w.a x.w.n x.w.c))
   have R:=(zj L5.box 0).trans (rfl:_=some (Value.slice t fl.length r));have A5:=ze (o:=.cells #[.slice (some ⟨Z.heap.size,0,none⟩) x.w.n x.w.n] 23) (zof w5.heap.size w5);rw[JN.out]at R L k0 L7;have ka:=za R A5;have kb:=za b2 A5;have SN:Hid ((lens.take i).sum+x.w.n=(lens.take (i+1)).sum):=by
    have:=zeJ (lens:=lens) (i:=i) (by rw[HN.out];exact a9)
    rw[e4.out]at this;exact this
   have h9:Hid (∃a6 f8 h7,LFs u lb a6 f8 h7 (lens.take (i+1)).sum (w7.setCell ⟨lb,0,none⟩ (.slice (some ⟨M,0,none⟩) (i+1) cap))/\a6.length=i+1/\a6.map (fun x=>(x.s,x.n))=prs lens (i+1)):=by
    refine⟨_,_,_,by rw[<-SN.out];exact L7,by rw[zor,JN.out];rfl,?_⟩
    rw[List.map_append,JP.out];show prs lens i++[((lens.take i).sum,x.w.n)]=prs lens i++[((lens.take i).sum,lens.getD i 0)];rw[e4.out]
   refine hK.out _ _ ⟨R,b2⟩ (fun f=>?_)
   clear hK K;try simp only[List.setIfInBounds_toArray]
   refine wpAnyH_ready (rs:=[6]) (by kernel_rfl) (by simp) ?_
   refine AllReadyH.cons (jL rfl) (fun K hK=>?_) AllReadyH.nil
   go_simp
   refine hK.out _ _ ⟨ka,kb⟩ (fun f=>?_)
   clear hK K;try simp only[List.setIfInBounds_toArray]
   refine wpAnyH_ready (rs:=[7]) (by kernel_rfl) (by simp) ?_
   refine AllReadyH.cons (jL rfl) (fun K hK=>?_) AllReadyH.nil
   refine zhL rfl _ _ rfl (by simp[Act.eval]) (by simp[Act.eval]) L ?_
   refine hK.out _ _ ⟨k0,e1⟩ (fun f=>?_)
   clear hK K;try simp only[List.setIfInBounds_toArray]
   refine wpAnyH_done (by kernel_rfl) ?_ _
   dsimp only[zbv];clear f L b8 d1 c0 cx R b2 e1 ka kb A5 L5 R5 L7 D e3 a2 b0 j b6 HH;go_wp2;go_roundw
   case rel=>exact⟨i+1,by omega,by go_num,h9.out⟩
   case measure=>simp[intOf];omega
  ·have f6:¬(i:Int)<(d.heads.n:Int):=by omega
   have d2:i=d.heads.n:=by omega
   have i2:=hid d2;subst d2;have eS:(lens.take d.heads.n).sum=lens.sum:=by rw[<-HN.out,List.take_length]
   have J0:=V.rest;rw[eS]at J0;have JP:=hid jp;have JN:=hid jn;have j2:=a0.out;generalize d7:lens.sum=S at*;have d8:=hid d7;have K0:LRest u lb fl t r #[.slice t d.heads.n r,.slice none 0 0,.slice none 0 0,.int .i64 0,.slice none 0 0,.slice none 0 0,.int .i64 (S:Int)] wr:=by
    have e:zbg t fl.length r S= #[.slice t d.heads.n r,.slice none 0 0,.slice none 0 0,.int .i64 0,.slice none 0 0,.slice none 0 0,.int .i64 (S:Int)]:=by rw[jn]
    rw[<-e];exact J0
   clear J0 V jp jn eS d7;have j:=hid (zds (m:=d.heads.n) (s:=S) K0.box rfl (by omega) (by omega))
   have c0:=(zj (E.out wr K0.gr) 0).trans (rfl:_=some (Value.slice d.heads.a d.heads.n d.heads.c));have F:=(zoj.1 (E.out wr K0.gr)).1;go_wp2_with fail
   refine j.out.mono ?_;intro e u1 l;have d5:=l;obtain⟨rfl,e6,U,f0⟩:=l;have z1:=(zj U 1).trans (rfl:_=some (Value.slice none 0 0));have y1:u1.frozen? ⟨lb,1,none⟩=false:=by simp[World.frozen?,U]
   have x1:=(zoj.1 U).1;obtain⟨v1,hv1⟩:∃v,v=u1.setCell ⟨lb,1,none⟩ (.slice (some ⟨wr.heap.size,0,none⟩) (d.heads.n) (d.heads.n)):=⟨_,rfl⟩;obtain⟨b1,G,G1,F1⟩:=jq K0 d5 1 (.slice (some ⟨wr.heap.size,0,none⟩) (d.heads.n) (d.heads.n));rw[<-hv1]at b1 G F1;have K1:LRest u lb fl t r #[.slice t d.heads.n r,.slice (some ⟨wr.heap.size,0,none⟩) (d.heads.n) (d.heads.n),.slice none 0 0,.int .i64 0,.slice none 0 0,.slice none 0 0,.int .i64 ((S+d.heads.n:Nat):Int)] v1:=by simpa using b1
   obtain⟨g1,hgd1⟩:∃g,g=wr.heap.size:=⟨_,rfl⟩;have c5:=hid hv1;have i5:=hid hgd1;rw[<-hgd1]at G G1;rw[<-hgd1]at K1 c5;rw[<-hgd1];clear d5 e6 U f0 b1 F1 hv1 hgd1 j K0;go_upto_region 8 with fail
   rw[<-c5.out];clear z1 y1 x1;clear c0 F;have j:=hid (zds (m:=d.mta.n) (s:=S+d.heads.n) K1.box rfl (by omega) (by omega))
   have c0:=(zj (E.out v1 K1.gr) 1).trans (rfl:_=some (Value.slice d.mta.a d.mta.n d.mta.c));have F:=(zoj.1 (E.out v1 K1.gr)).1;go_wp2_with fail
   refine j.out.mono ?_;intro e u2 l;have c2:=l;obtain⟨rfl,g8,T,f4⟩:=l;have z2:=(zj T 2).trans (rfl:_=some (Value.slice none 0 0));have y2:u2.frozen? ⟨lb,2,none⟩=false:=by simp[World.frozen?,T]
   have x2:=(zoj.1 T).1;obtain⟨v2,hv2⟩:∃v,v=u2.setCell ⟨lb,2,none⟩ (.slice (some ⟨v1.heap.size,0,none⟩) (d.mta.n) (d.mta.n)):=⟨_,rfl⟩;obtain⟨a8,N,G2,F2⟩:=jq K1 c2 2 (.slice (some ⟨v1.heap.size,0,none⟩) (d.mta.n) (d.mta.n));rw[<-hv2]at a8 N F2;have K2:LRest u lb fl t r #[.slice t d.heads.n r,.slice (some ⟨g1,0,none⟩) (d.heads.n) (d.heads.n),.slice (some ⟨v1.heap.size,0,none⟩) (d.mta.n) (d.mta.n),.int .i64 0,.slice none 0 0,.slice none 0 0,.int .i64 ((S+d.heads.n+d.mta.n:Nat):Int)] v2:=by simpa using a8
   have G:=F2 _ _ G1 G;obtain⟨M,hgd2⟩:∃g,g=v1.heap.size:=⟨_,rfl⟩;have d9:=hid hv2;have j4:=hid hgd2;rw[<-hgd2]at N G2;rw[<-hgd2]at K2 d9;rw[<-hgd2];clear c2 g8 T f4 a8 F2 hv2 hgd2 j K1;go_upto_region 9 with fail
   rw[<-d9.out];clear z2 y2 x2;clear c0 F;obtain⟨P,hP⟩:∃P,P=S+d.heads.n+d.mta.n:=⟨_,rfl⟩;rw[<-hP]at K2;have j0:P<=900:=by omega
   have d0:=hid hP;clear hP;have j:=hid (zds (m:=1) (s:=P) K2.box rfl (by omega) (by omega))
   go_wp2_with fail
   refine j.out.mono ?_;intro e u3 l;have e2:=l;obtain⟨rfl,a5,O,f1⟩:=l;have z3:=(zj O 3).trans (rfl:_=some (Value.int .i64 0));have y3:u3.frozen? ⟨lb,3,none⟩=false:=by simp[World.frozen?,O]
   have x3:=(zoj.1 O).1;have q3:=a5.cell (i:=0) (by rw[qY];decide)
   rw[zlw (by decide),Nat.add_zero]at q3
   have d4:=a5.lt;obtain⟨v3,hv3⟩:∃v,v=u3.setCell ⟨lb,3,none⟩ (.int .i64 ((P:Nat):Int)):=⟨_,rfl⟩;obtain⟨b5,I3,G3,F3⟩:=jq K2 e2 3 (.int .i64 ((P:Nat):Int));rw[<-hv3]at b5 I3 F3;have K3:LRest u lb fl t r #[.slice t d.heads.n r,.slice (some ⟨g1,0,none⟩) (d.heads.n) (d.heads.n),.slice (some ⟨M,0,none⟩) (d.mta.n) (d.mta.n),.int .i64 ((P:Nat):Int),.slice none 0 0,.slice none 0 0,.int .i64 ((P+1:Nat):Int)] v3:=by simpa using b5
   have G:=F3 _ _ G1 G;have N:=F3 _ _ G2 N;obtain⟨g3,hgd3⟩:∃g,g=v2.heap.size:=⟨_,rfl⟩;have h4:=hid hv3;have j3:=hid hgd3;rw[<-hgd3]at I3 G3;rw[<-hgd3]at q3 d4;rw[<-hgd3];clear e2 a5 O f1 b5 F3 hv3 hgd3 j K2;go_upto_region 10 with fail
   rw[<-h4.out];clear z3 y3 x3;clear q3 d4;have j:=hid (zds (m:=3) (s:=P+1) K3.box rfl (by omega) (by omega))
   go_wp2_with fail
   refine j.out.mono ?_;intro e u4 l;have c6:=l;obtain⟨rfl,g7,X,h0⟩:=l;have z4:=(zj X 4).trans (rfl:_=some (Value.slice none 0 0));have y4:u4.frozen? ⟨lb,4,none⟩=false:=by simp[World.frozen?,X]
   have x4:=(zoj.1 X).1;obtain⟨v4,hv4⟩:∃v,v=u4.setCell ⟨lb,4,none⟩ (.slice (some ⟨v3.heap.size,0,none⟩) (3) (3)):=⟨_,rfl⟩;obtain⟨a7,I4,G4,F4⟩:=jq K3 c6 4 (.slice (some ⟨v3.heap.size,0,none⟩) (3) (3));rw[<-hv4]at a7 I4 F4;have K4:LRest u lb fl t r #[.slice t d.heads.n r,.slice (some ⟨g1,0,none⟩) (d.heads.n) (d.heads.n),.slice (some ⟨M,0,none⟩) (d.mta.n) (d.mta.n),.int .i64 ((P:Nat):Int),.slice (some ⟨v3.heap.size,0,none⟩) (3) (3),.slice none 0 0,.int .i64 ((P+1+3:Nat):Int)] v4:=by simpa using a7
   have G:=F4 _ _ G1 G;have N:=F4 _ _ G2 N;have I3:=F4 _ _ G3 I3;obtain⟨g4,hgd4⟩:∃g,g=v3.heap.size:=⟨_,rfl⟩;have c1:=hid hv4;have j1:=hid hgd4;rw[<-hgd4]at I4 G4;rw[<-hgd4]at K4 c1;rw[<-hgd4];clear c6 g7 X h0 a7 F4 hv4 hgd4 j K3;go_upto_region 11 with fail
   rw[<-c1.out];clear z4 y4 x4;have j:=hid (zds (m:=3) (s:=P+1+3) K4.box rfl (by omega) (by omega))
   go_wp2_with fail
   refine j.out.mono ?_;intro e u5 l;have d6:=l;obtain⟨rfl,e8,W,g6⟩:=l;have z5:=(zj W 5).trans (rfl:_=some (Value.slice none 0 0));have y5:u5.frozen? ⟨lb,5,none⟩=false:=by simp[World.frozen?,W]
   have x5:=(zoj.1 W).1;obtain⟨v5,hv5⟩:∃v,v=u5.setCell ⟨lb,5,none⟩ (.slice (some ⟨v4.heap.size,0,none⟩) (3) (3)):=⟨_,rfl⟩;obtain⟨a3,I5,G5,F5⟩:=jq K4 d6 5 (.slice (some ⟨v4.heap.size,0,none⟩) (3) (3));rw[<-hv5]at a3 I5 F5;have K5:LRest u lb fl t r #[.slice t d.heads.n r,.slice (some ⟨g1,0,none⟩) (d.heads.n) (d.heads.n),.slice (some ⟨M,0,none⟩) (d.mta.n) (d.mta.n),.int .i64 ((P:Nat):Int),.slice (some ⟨g4,0,none⟩) (3) (3),.slice (some ⟨v4.heap.size,0,none⟩) (3) (3),.int .i64 ((P+1+3+3:Nat):Int)] v5:=by simpa using a3
   have G:=F5 _ _ G1 G;have N:=F5 _ _ G2 N;have I3:=F5 _ _ G3 I3;have I4:=F5 _ _ G4 I4;obtain⟨g5,hgd5⟩:∃g,g=v4.heap.size:=⟨_,rfl⟩;have c9:=hid hv5;have i9:=hid hgd5;rw[<-hgd5]at I5 G5;rw[<-hgd5]at K5 c9;rw[<-hgd5];clear d6 e8 W g6 a3 F5 hv5 hgd5 j K4;go_upto_region 12 with fail
   rw[<-c9.out];clear z5 y5 x5;obtain⟨Q,hQ⟩:∃Q,Q=P+1+3+3:=⟨_,rfl⟩;rw[<-hQ]at K5;have HQ:=hid hQ;clear hQ;have A:=K5.box;have q:=f7.out v5 K5.gr;have m0:=(zj A 0).trans (rfl:_=some (Value.slice t d.heads.n r));have n0:=(zj q 0).trans (rfl:_=some (Value.slice none 0 0));have o0:v5.frozen? ⟨rb,0,none⟩=false:=by simp[World.frozen?,q]
   have m1:=(zj A 1).trans (rfl:_=some (Value.slice (some ⟨g1,0,none⟩) d.heads.n d.heads.n));have n1:=(zj q 1).trans (rfl:_=some (Value.slice none 0 0));have o1:v5.frozen? ⟨rb,1,none⟩=false:=by simp[World.frozen?,q]
   have m2:=(zj A 2).trans (rfl:_=some (Value.slice (some ⟨M,0,none⟩) d.mta.n d.mta.n));have n2:=(zj q 2).trans (rfl:_=some (Value.slice none 0 0));have o2:v5.frozen? ⟨rb,2,none⟩=false:=by simp[World.frozen?,q]
   have m3:=(zj A 3).trans (rfl:_=some (Value.int .i64 (P:Int)));have n3:=(zj q 3).trans (rfl:_=some (Value.int .i64 0));have o3:v5.frozen? ⟨rb,3,none⟩=false:=by simp[World.frozen?,q]
   have m4:=(zj A 4).trans (rfl:_=some (Value.slice (some ⟨g4,0,none⟩) 3 3));have n4:=(zj q 4).trans (rfl:_=some (Value.slice none 0 0));have o4:v5.frozen? ⟨rb,4,none⟩=false:=by simp[World.frozen?,q]
   have m5:=(zj A 5).trans (rfl:_=some (Value.slice (some ⟨g5,0,none⟩) 3 3));have n5:=(zj q 5).trans (rfl:_=some (Value.slice none 0 0));have o5:v5.frozen? ⟨rb,5,none⟩=false:=by simp[World.frozen?,q]
   have m6:=(zj A 6).trans (rfl:_=some (Value.int .i64 (Q:Int)));have n6:=(zj q 6).trans (rfl:_=some (Value.int .i64 0));have o6:v5.frozen? ⟨rb,6,none⟩=false:=by simp[World.frozen?,q]
   have a4:=(zoj.1 A).1;have i8:=(zoj.1 q).1;have c3:∀x∈fl,x.s+x.n<=3000:=fun x hx=>by
    have h1:(x.s,x.n)∈prs lens d.heads.n:=by rw[<-JP.out];exact List.mem_map_of_mem hx
    have h2:=zlA lens d.heads.n (by rw[HN.out];exact zos _) _ h1
    have h3:=d8.out;have:x.s+x.n<=lens.sum:=h2;omega
   rw[d0.out]at I4 I5;have c4:=hid (zlz K5 (H:=d.heads.n) (Mn:=d.mta.n) (S:=S) JN.out c3 (by omega) G N I4 I5 G1 G2 G4 G5)
   have f5:=hid (f3.out v5 K5.gr);have h5:Hid (zgW lens d.heads.n d.mta.n (zly fl t d.heads.n r g1 M g4 g5 S d.mta.n)):=by
    have h3:=d8.out;refine⟨?_,by rw[h3],by rw[h3],by rw[h3],by rw[h3],by rw[h3],by rw[h3]⟩
    rw[List.map_map,HN.out,<-JP.out,List.map_map];rfl
   have e7:Hid ((zly fl t d.heads.n r g1 M g4 g5 S d.mta.n).v=.agg #[.slice t d.heads.n r,.slice (some ⟨g1,0,none⟩) d.heads.n d.heads.n,.slice (some ⟨M,0,none⟩) d.mta.n d.mta.n,.int .i64 (P:Int),.slice (some ⟨g4,0,none⟩) 3 3,.slice (some ⟨g5,0,none⟩) 3 3,.int .i64 (Q:Int)]):=by
    show(zly fl t d.heads.n r g1 M g4 g5 S d.mta.n).v=_;rw[HQ.out,d0.out]
   clear K5 G N I3 I4 I5 G1 G2 G3 G4 G5 c3 A q;have i0:¬lb=rb:=fun e=>a1 e.symm
   go_wp2;refine bodyPost_ret (v:=.agg #[.slice t d.heads.n r,.slice (some ⟨g1,0,none⟩) d.heads.n d.heads.n,.slice (some ⟨M,0,none⟩) d.mta.n d.mta.n,.int .i64 (P:Int),.slice (some ⟨g4,0,none⟩) 3 3,.slice (some ⟨g5,0,none⟩) 3 3,.int .i64 (Q:Int)]) (by simp[results,Tryz.results37,go_sem, *]) rfl ⟨_,by rw[e7.out],h5.out,?_,fun W' _ hW=>c4.out W' fun k hk g0=>?_⟩
   ·have B:w.heap.size<=rb:=by rw[ER.out];omega
    exact((((((f5.out.setCell (p:=⟨rb,0,none⟩) B _).setCell (p:=⟨rb,1,none⟩) B _).setCell (p:=⟨rb,2,none⟩) B _).setCell (p:=⟨rb,3,none⟩) B _).setCell (p:=⟨rb,4,none⟩) B _).setCell (p:=⟨rb,5,none⟩) B _).setCell (p:=⟨rb,6,none⟩) B _
   ·have C:k≠rb:=by have:=ES.out;have:=ER.out;omega
    rw[hW k (by have:=ES.out;omega) (by simpa only[zow]using g0)]
    rw[zop _ _ _ _ (by exact C),zop _ _ _ _ (by exact C),zop _ _ _ _ (by exact C),zop _ _ _ _ (by exact C),zop _ _ _ _ (by exact C),zop _ _ _ _ (by exact C),zop _ _ _ _ (by exact C)]
def zF:Nat:=18446744073709551615
def yc(s:Nat)(h:Int):Bool:=decide (h<0)||s.testBit h.toNat
def zL(s:Nat)(es:List PushD):Bool:=es.all fun x=>!decide (x.op=2)||yc s x.r.h
def yD(s:Nat)(ks:List RefD):Bool:=ks.all fun r=>yc s r.h
def yN(s:Nat)(o:POp):Nat:=if o.kind=2 then s|||zv o.head else if o.kind=3 then s-(s&&& zv o.head)else s
def yr(s:Nat)(o:POp):Bool:=if o.kind=1 then zL s o.es&&yc s o.r.h else if o.kind=5 then zL s o.es else if o.kind=6 then yc s o.r.h&&yc s o.head else true
def yH(s:Nat)(os:List POp):Nat:=os.foldl yN s
def zH:Nat->List POp->Bool
 |_,[]=>true
 |s,o::os=>yr s o&&zH (yN s o) os
def zG(p:PPlan)(k:Int):List POp:=(p.al.getD k.toNat PAct.z).os
def jU(p:PPlan)(k:Int):PTab:=p.ts.getD k.toNat PTab.z
def yd(p:PPlan)(s:Nat)(l:List Int):Nat:=l.foldl (fun a k=>a&&& yH s (zG p k)) zF
def jd(p:PPlan)(s:Nat)(x:PNode):Nat:=
 if x.kind=1 then yd p s (jU p x.n).al else if x.kind=2 then yH s (zG p x.n)else if x.kind=3 then s else s|||zv x.n
def noN(s:Nat)(x:PNode):Nat:=if x.kind=4 then s-(s&&& zv x.n)else s
def yB(p:PPlan)(s:Nat)(x:PNode):Bool:=
 if x.kind=1 then yD s (jU p x.n).ks&&(jU p x.n).al.all (fun k=>zH s (zG p k))else if x.kind=2 then zH s (zG p x.n)else if x.kind=3 then zL s x.es else true
def qM(p:PPlan)(s:Nat)(x:PNode)(j:Nat):Nat:=
 if s=zF then zF else(if x.yes=(j:Int)then jd p s x else zF)&&& (if(x.kind=3\/x.kind=4)/\x.no=(j:Int)then noN s x else zF)
def SN(p:PPlan)(st:Nat):Nat->Nat->Nat
 |0,j=>if j=0 then st else zF
 |m+1,j=>SN p st m j&&& qM p (SN p st m m) (p.ns.getD m PNode.z) j
theorem zy{a:Nat}(h:a<2^64):a&&& zF=a:=by
 unfold zF;rw[show(18446744073709551615:Nat)=2^64-1 from rfl,Nat.and_two_pow_sub_one_eq_mod,Nat.mod_eq_of_lt h]
theorem zaY{a:Nat}(h:a<2^64):zF&&& a=a:=by rw[Nat.and_comm];exact zy h
theorem kj:zF<2^64:=by decide
theorem xW{h:Int}(a:h<6):zv h<2^64:=by
 unfold zv;split
 ·decide
 ·exact Nat.pow_lt_pow_right (by decide) (by omega)
theorem zcj{s b:Nat}(h:s<2^64):s-(s&&& b)<2^64:=Nat.lt_of_le_of_lt (Nat.sub_le _ _) h
structure zaZ (o : POp) : Prop where
 kind : 1 <= o.kind /\ o.kind <= 6
 ref : o.kind = 1 \/ o.kind = 6 -> o.r.h < 6
 tree : o.kind = 1 \/ o.kind = 5 -> ∀ x ∈ o.es, x.op = 2 -> x.r.h < 6
 few : o.kind = 1 \/ o.kind = 5 -> o.es.length <= 8
 head : o.kind = 2 \/ o.kind = 3 \/ o.kind = 6 -> 0 <= o.head /\ o.head < 6
def zeq(os:List POp):Prop:=∀o∈os,o.kind=2\/o.kind=3->o.head<6
theorem zhv{s:Nat}{o:POp}(hs:s<2^64)(c:o.kind=2\/o.kind=3->o.head<6):yN s o<2^64:=by
 unfold yN;by_cases a:o.kind=2
 ·rw[if_pos a];exact Nat.or_lt_two_pow hs (xW (c (.inl a)))
 rw[if_neg a];by_cases b:o.kind=3
 ·rw[if_pos b];exact zcj hs
 rw[if_neg b];exact hs
theorem qQ:∀{os:List POp} {s:Nat},s<2^64->zeq os->yH s os<2^64
 |[],_,hs,_=>hs
 |o::os,_,hs,ho=>qQ (os:=os) (zhv hs (ho o List.mem_cons_self)) fun a h=>ho a (List.mem_cons_of_mem _ h)
theorem jV{a b:Nat}(h:a<2^64):a&&& b<2^64:=Nat.lt_of_le_of_lt Nat.and_le_left h
theorem zck{p:PPlan}{s:Nat}(l:List Int):yd p s l<2^64:=by
 have:∀(l:List Int) (a:Nat),a<2^64->l.foldl (fun a k=>a&&& yH s (zG p k)) a<2^64:=by
  intro l;induction l with
  |nil=>exact fun a h=>h
  |cons k l ih=>exact fun a h=>ih _ (jV h)
 exact this l zF kj
theorem qR{p:PPlan}{st:Nat}(hs:st<2^64):∀m j,SN p st m j<2^64
 |0,j=>by
  unfold SN;split
  ·exact hs
  ·exact kj
 |m+1,j=>jV (qR hs m j)
theorem zcl{s:Nat}{os:List POp}{k:Nat}{o:POp}(h:os[k]?=some o):zH s (os.drop k)=(yr s o&&zH (yN s o) (os.drop (k+1))):=by
 obtain⟨a,e⟩:=zok.1 h;rw[zoM a,e];rfl
theorem zcm{s:Nat}{os:List POp}{k:Nat}{o:POp}(h:os[k]?=some o):yH s (os.take (k+1))=yN (yH s (os.take k)) o:=by
 unfold yH;rw[zoI,h];simp
theorem zey(m h:Nat):m&&& 2^h=0↔m.testBit h=false:=by
 constructor
 ·intro e;have:=congrArg (Nat.testBit · h) e;simpa[Nat.testBit_and,Nat.testBit_two_pow_self]using this
 ·intro e;refine Nat.eq_of_testBit_eq fun k=>?_
  rw[Nat.testBit_and,Nat.testBit_two_pow,Nat.zero_testBit];by_cases a:h=k
  ·subst a;simp[e]
  ·simp[a]
theorem zfG(a b:Nat)(h:a&&& b=0):a|||b=a+b:=by
 have hw:a+b<2^(a+b):=Nat.lt_two_pow_self;have c:=BitVec.add_eq_or_of_and_eq_zero (w:=a+b) (BitVec.ofNat _ a) (BitVec.ofNat _ b) (by rw[<-BitVec.ofNat_and,h])
 have h2:=congrArg BitVec.toNat c;rw[<-BitVec.ofNat_add,<-BitVec.ofNat_or,BitVec.toNat_ofNat,BitVec.toNat_ofNat,Nat.mod_eq_of_lt hw,Nat.mod_eq_of_lt (Nat.or_lt_two_pow (by omega) (by omega))]at h2
 exact h2.symm
theorem zgS(s h:Nat)(a:h<64)(hs:s<2^64):(bits .and .u64 (s:Int) ((2^h:Nat):Int) !=0)=s.testBit h:=by
 rw[kS s (2^h) hs (Nat.pow_lt_pow_right (by decide) a)]
 cases e:s.testBit h with
 |false=>rw[(zey s h).2 e];rfl
 |true=>
  rw[bne_iff_ne];intro h0;have:=(zey s h).1 (by omega)
  rw[e]at this;cases this
theorem zfH(s h:Nat):s-(s&&& 2^h)=s&&& (18446744073709551615-2^h)\/¬(s<2^64/\h<64):=by
 by_cases hs:s<2^64/\h<64
 ·refine .inl ?_;have b:18446744073709551615-2^h=2^64-(2^h+1):=by omega
  have a:2^h<2^64:=Nat.pow_lt_pow_right (by decide) hs.2
  have c:(s&&& (18446744073709551615-2^h))+(s&&& 2^h)=s:=by
   rw[<-zfG]
   ·refine Nat.eq_of_testBit_eq fun k=>?_
    rw[Nat.testBit_or,Nat.testBit_and,Nat.testBit_and,b,Nat.testBit_two_pow_sub_succ a];by_cases d:k<64
    ·simp only[d,decide_true,Bool.true_and];cases s.testBit k<;>cases (2^h).testBit k<;>rfl
    ·have:s.testBit k=false:=Nat.testBit_lt_two_pow (zom hs.1 (Nat.pow_le_pow_right (by decide) (by omega)))
     simp[this]
   ·refine Nat.eq_of_testBit_eq fun k=>?_
    rw[Nat.testBit_and,Nat.testBit_and,Nat.testBit_and,b,Nat.testBit_two_pow_sub_succ a,Nat.zero_testBit];cases s.testBit k<;>cases (2^h).testBit k<;>simp
  omega
 ·exact .inr hs
theorem zhG(s h:Nat)(hs:s<2^64)(a:h<64):bits .andNot .u64 (s:Int) ((2^h:Nat):Int)=((s-(s&&& 2^h):Nat):Int):=by
 rw[u64_andNot_nat _ _ (by omega) (by have:2^h<2^64:=Nat.pow_lt_pow_right (by decide) a;omega)]
 rcases zfH s h with e|e
 ·rw[e]
 ·exact absurd ⟨hs,a⟩ e
theorem qT(s:Nat)(h:Int)(hs:s<2^64)(a:h<6)(w:World):Calls Tryz.prog 189 #[.int .u64 (s:Int),.int .i64 h] w fun e w'=>e=.returned (.bool (yc s h))/\w'=w:=by
 by_cases h0:h<0
 ·have e:yc s h=true:=by unfold yc;rw[zoY h0,Bool.true_or]
  have hd:=zoY h0;rw[e];clear e;go_enter Tryz.func189,Tryz.ntmps189
  go_wp2;go_ret;exact⟨rfl,rfl⟩
 ·have e:yc s h=s.testBit h.toNat:=by unfold yc;rw[zoX h0,Bool.false_or]
  have hb:=zgS s h.toNat (by omega) hs
  rw[e];clear e;rcases qo h0 a with rfl|rfl|rfl|rfl|rfl|rfl
  all_goals
   simp only[Int.reduceToNat,Nat.reducePow,Int.cast_ofNat_Int]at hb ⊢;rw[<-hb];clear hb h0;go_enter Tryz.func189,Tryz.ntmps189
   go_wp2;go_ret;exact⟨rfl,rfl⟩
theorem zdl(s:Nat)(h:Int)(hs:s<2^64)(h0:0<=h)(a:h<6)(w:World):Calls Tryz.prog 153 #[.int .u64 (s:Int),.int .i64 h] w fun e w'=>e=.returned (.int .u64 ((s|||zv h:Nat):Int))/\w'=w:=by
 have hb:=zbt s (zv h) hs (xW a);rw[<-hb];clear hb;rcases qo (by omega) a with rfl|rfl|rfl|rfl|rfl|rfl
 all_goals
  clear h0 a;simp only[zv,Int.reduceToNat,Nat.reducePow,Int.cast_ofNat_Int,Int.reduceLT,if_false];go_enter Tryz.func153,Tryz.ntmps153
  go_wp2;go_ret;exact⟨rfl,rfl⟩
theorem za5(s:Nat)(h:Int)(hs:s<2^64)(h0:0<=h)(a:h<6)(w:World):Calls Tryz.prog 154 #[.int .u64 (s:Int),.int .i64 h] w fun e w'=>e=.returned (.int .u64 ((s-(s&&& zv h):Nat):Int))/\w'=w:=by
 have b:zv h=2^h.toNat:=by unfold zv;rw[if_neg (by omega)]
 have hb:=zhG s h.toNat hs (by omega)
 rw[b,<-hb];clear hb b;rcases qo (by omega) a with rfl|rfl|rfl|rfl|rfl|rfl
 all_goals
  clear h0 a;simp only[Int.reduceToNat,Nat.reducePow,Int.cast_ofNat_Int];go_enter Tryz.func154,Tryz.ntmps154
  go_wp2;go_ret;exact⟨rfl,rfl⟩
theorem jY{α :Type}{f: α->Bool}{l:List α}{k:Nat}{x: α}(h:l[k]?=some x):(l.drop k).all f=(f x&&(l.drop (k+1)).all f):=by
 obtain⟨a,e⟩:=zok.1 h;rw[zoM a,e,List.all_cons]
theorem zhH(s:Nat)(e:QSl)(es:List RefD)(w:World)(hs:s<2^64)(C:QRow 2 RefD.lie w e es)(D:∀x∈es,x.h<6)(K:e.n<=1000):
 Calls Tryz.prog 187 #[.int .u64 (s:Int),.slice e.a e.n e.c] w fun q w'=>q=.returned (.bool (yD s es))/\Below w.heap.size w w':=by
 obtain⟨y,ee⟩:∃y,e.a=y:=⟨_,rfl⟩;have E:=hid C;have G:=hid ee;have F:=hid D;have I:=hid hs;have HD:Hid (∀(w':World) (b:Bool),yD s es=b->Below w.heap.size w w'->(Ending.returned (.bool b)=.returned (.bool (yD s es))/\Below w.heap.size w w')):=fun w' b h hb=>⟨by rw[h],hb⟩
 have H0:Hid (Below w.heap.size w w):=zof _ _;rw[ee];clear C ee D hs;go_enter Tryz.func187,Tryz.ntmps187
 go_wp2;go_loopw [9,6] (fun q _ wr=>∃k:Nat,k<=e.n/\q=.int .i64 k/\Hid (yD s es=yD s (es.drop k))/\Hid (Below w.heap.size w wr)) (fun q _ _=>e.n-(intOf q).toNat)
 case atStart=>exact⟨0,zon _,rfl,rfl,H0⟩
 case round=>
  obtain⟨k,J,rfl,l,t⟩:=hrel;clear H0;by_cases r:k<e.n
  ·obtain⟨g,off,x,i,u,⟨r0,_⟩,⟨r1,_⟩⟩:=zu (E.out.step RefD.keeps t.out) r;obtain rfl:y=some ⟨g,off,none⟩:=by rw[<-G.out];exact i
   have A:(k:Int)<(e.n:Int):=by omega
   have j:Hid (yD s es=(yc s x.h&&yD s (es.drop (k+1)))):=by show yD s es=_;rw[l.out];exact jY u
   have m:=hid (fun w'=>qT s x.h I.out (F.out x (zol u)) w')
   have f:=hid (fun o=>zh t.out (ze (zof wr.heap.size wr) (o:=o)))
   clear u i l;generalize yc s x.h=B at*;cases B with
   |true=>
    have d:Hid (yD s es=yD s (es.drop (k+1))):=by have:=j.out;rw[Bool.true_and]at this;exact this
    clear j;go_wp2_with fail
    refine(m.out _).mono ?_;rintro q H ⟨rfl,rfl⟩;clear m;go_wp2;go_roundw
    case rel=>exact⟨k+1,by omega,by go_num,d,f.out _⟩
    case measure=>simp[intOf];omega
   |false=>
    have d:Hid (yD s es=false):=by have:=j.out;rw[Bool.false_and]at this;exact this
    clear j;go_wp2_with fail
    refine(m.out _).mono ?_;rintro q H ⟨rfl,rfl⟩;clear m;go_wp2;go_ret;exact HD.out _ _ d.out (f.out _)
  ·have A:¬(k:Int)<(e.n:Int):=by omega
   have d:Hid (yD s es=true):=by
    show yD s es=true;rw[l.out,List.drop_of_length_le (by have:=E.out.1;omega)]
    rfl
   clear l;go_wp2;go_ret;exact HD.out _ _ d.out t.out
theorem zby(s:Nat)(e:QSl)(es:List PushD)(w:World)(hs:s<2^64)(D:QRow 4 PushD.lie w e es)(E:∀x∈es,x.op=2->x.r.h<6)(O:e.n<=1000):
 Calls Tryz.prog 152 #[.int .u64 (s:Int),.slice e.a e.n e.c] w fun q w'=>q=.returned (.bool (zL s es))/\Below w.heap.size w w':=by
 obtain⟨A,ee⟩:∃A,e.a=A:=⟨_,rfl⟩;have F:=hid D;have I:=hid ee;have H:=hid E;have K:=hid hs;have HD:Hid (∀(w':World) (b:Bool),zL s es=b->Below w.heap.size w w'->(Ending.returned (.bool b)=.returned (.bool (zL s es))/\Below w.heap.size w w')):=fun w' b h hb=>⟨by rw[h],hb⟩
 have H0:Hid (Below w.heap.size w w):=zof _ _;rw[ee];clear D ee E hs;go_enter Tryz.func152,Tryz.ntmps152
 go_wp2;go_loopw [9,6] (fun q _ wr=>∃k:Nat,k<=e.n/\q=.int .i64 k/\Hid (zL s es=zL s (es.drop k))/\Hid (Below w.heap.size w wr)) (fun q _ _=>e.n-(intOf q).toNat)
 case atStart=>exact⟨0,zon _,rfl,rfl,H0⟩
 case round=>
  obtain⟨k,L,rfl,l,y⟩:=hrel;clear H0;by_cases u:k<e.n
  ·obtain⟨g,off,x,j,t,⟨r0,_⟩,⟨r1,_⟩,⟨M,_⟩,⟨N,_⟩⟩:=zu (F.out.step PushD.keeps y.out) u;obtain rfl:A=some ⟨g,off,none⟩:=by rw[<-I.out];exact j
   have C:(k:Int)<(e.n:Int):=by omega
   have f:Hid (zL s es=((!decide (x.op=2)||yc s x.r.h)&&zL s (es.drop (k+1)))):=by show zL s es=_;rw[l.out];exact jY t
   have i:=hid (fun o=>zh y.out (ze (zof wr.heap.size wr) (o:=o)))
   by_cases h2:x.op=2
   ·have G:(x.op==2)=true:=by simpa using h2
    have m:=hid (fun w'=>qT s x.r.h K.out (H.out x (zol t) h2) w')
    rw[zoY h2]at f;clear t j l h2;generalize yc s x.r.h=B at*;cases B with
    |true=>
     have d:Hid (zL s es=zL s (es.drop (k+1))):=by have:=f.out;show zL s es=_;simpa using this
     clear f;go_wp2_with fail
     refine(m.out _).mono ?_;rintro q J ⟨rfl,rfl⟩;clear m;go_wp2;go_roundw
     case rel=>exact⟨k+1,by omega,by go_num,d,i.out _⟩
     case measure=>simp[intOf];omega
    |false=>
     have d:Hid (zL s es=false):=by have:=f.out;show zL s es=_;simpa using this
     clear f;go_wp2_with fail
     refine(m.out _).mono ?_;rintro q J ⟨rfl,rfl⟩;clear m;go_wp2;go_ret;exact HD.out _ _ d.out (i.out _)
   ·have G:(x.op==2)=false:=by simpa using h2
    rw[zoX h2]at f;have d:Hid (zL s es=zL s (es.drop (k+1))):=by have:=f.out;show zL s es=_;simpa using this
    clear f t j l h2;go_wp2;go_roundw
    case rel=>exact⟨k+1,by omega,by go_num,d,i.out _⟩
    case measure=>simp[intOf];omega
  ·have C:¬(k:Int)<(e.n:Int):=by omega
   have d:Hid (zL s es=true):=by
    show zL s es=true;rw[l.out,List.drop_of_length_le (by have:=F.out.1;omega)]
    rfl
   clear l;go_wp2;go_ret;exact HD.out _ _ d.out y.out
end Go.Proofs.YtdajaaondlekfaaGreat
