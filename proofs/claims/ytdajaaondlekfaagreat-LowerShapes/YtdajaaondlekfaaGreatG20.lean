import Derived.Test.YtdajaaondlekfaaGreatG9
import Derived.Deep.DeepCutAuto
import Derived.Test.YtdajaaondlekfaaGreatG6
import Derived.Test.YtdajaaondlekfaaGreatG3
import Derived.Test.YtdajaaondlekfaaGreatG7
import Derived.Test.YtdajaaondlekfaaGreatG1
import Derived.Test.YtdajaaondlekfaaGreatG17
import Derived.Test.YtdajaaondlekfaaGreatVVStep
set_option maxHeartbeats 4000000
set_option maxRecDepth 20000
set_option linter.unusedSimpArgs false
namespace Go.Proofs.YtdajaaondlekfaaGreat
open Go.RowKit
def kX(L:LayD)(h f:Int)(a b:Nat):List InsD:=kw L 0 ⟨h,f⟩++(kH 6 9 (b-a:Nat)++(qu 6 0 7::if(b:Int)/8-(a:Int)/8=0 then[]else(⟨2,0,6,0,0,0⟩::(kH 0 10 ((b:Int)%8)++[⟨14,0,0,(b:Int)/8-(a:Int)/8,0,0⟩]))))
theorem zeE(L:LayD)(r:Int)(f:RefD):(kw L r f).length=1:=by unfold kw;split<;>rfl
theorem zcz(L:LayD)(h f:Int)(a b:Nat):(kX L h f a b).length<=8:=by
 unfold kX;split<;>simp[zeE]
theorem zlr{n:Int}(h:0<=n/\n<1000000):kM n:=by
 show(Lit.int .u64 n).wf=true;simp[Lit.wf,IntKind.min,IntKind.max,IntKind.bits,IntKind.signed];omega
theorem zls{Q:World}{B:Nat}{cs:List InsD}{ms:List Int}{w:World}{M:MkrD}(C:MkrAt M Q)(h:St Q B M.pa cs ms w){cb:Nat}(K:Q.cell? ⟨cb,0,none⟩=some M.v)(f ff:Int)(ho:zbh M.L ⟨f,ff⟩)(hs:0<=zY M.L ⟨f,ff⟩/\zY M.L ⟨f,ff⟩<1000)(a b:Nat)(T:a<=b)(hb:b<100000)(P:cs.length+8<=100000):Calls Tryz.prog 120 #[zaC f ff a b,.pointer (some ⟨cb,0,none⟩)] w (Em Q B M.pa w (.tuple #[]) (cs++kX M.L f ff a b) ms):=by
 obtain⟨A,h2,c3,l⟩:=h.box #[.int .i64 f,.int .i64 ff,.int .i64 (a:Int),.int .i64 (b:Int)] 193;have N:=hid c3;obtain⟨W2,o,y,g,b2,f0,f1,f2,D,fl⟩:=zb1 w f ff a b;rw[<-y]at h2;have H0:Hid (∀w',Cov A w'->w'.cell? ⟨o,0,none⟩=some (.int .i64 f)):=fun w' c=>c.2 _ _ _ (by rw[g];exact l 0 _ rfl)
 have H1:Hid (∀w',Cov A w'->w'.cell? ⟨o,1,none⟩=some (.int .i64 ff)):=fun w' c=>c.2 _ _ _ (by rw[g];exact l 1 _ rfl)
 have H2:Hid (∀w',Cov A w'->w'.cell? ⟨o,2,none⟩=some (.int .i64 (a:Int))):=fun w' c=>c.2 _ _ _ (by rw[g];exact l 2 _ rfl)
 have O:Hid (∀w',Cov A w'->w'.cell? ⟨o,3,none⟩=some (.int .i64 (b:Int))):=fun w' c=>c.2 _ _ _ (by rw[g];exact l 3 _ rfl)
 have HB:=hid (b2.mono h.lo);have C:=C.cov c3.cov;have H7:=hid (fun w' (P:Cov A w')=>C.c7 P)
 have i:Hid (∀w',Cov A w'->w'.cell? ⟨cb,0,none⟩=some M.v):=fun w' c=>c.2 _ _ _ (c3.cov.2 _ _ _ K)
 have EW:=hid y;have EF:=hid g;have HM:=hid C;have cc:=i.out W2 h2.cov;have k:=zog _ _ cc;have HR:=hid (zmr C h2 0 wf0 ⟨f,ff⟩ (.inr ⟨ho,hs⟩) (by omega))
 have G:=hid (znz f ff a b T hb);obtain⟨X,hX⟩:∃X,X=cs++kX M.L f ff a b:=⟨_,rfl⟩;rw[<-hX];have H:=zeE M.L 0 ⟨f,ff⟩;unfold kX at hX;have HX:=hid hX;have HC:=hid P;have j:=hid H;clear C h h2 c3 l K ho hs P hX y g b2 H;dsimp only[MkrD.v,zaC]at*;generalize kw M.L 0 ⟨f,ff⟩=R1 at*;go_enter Tryz.func120,Tryz.ntmps120
 go_upto_region 1 with fail
 rw[<-EW.out,<-EF.out];go_wp2_with fail
 refine HR.out.mono ?_;rintro e n ⟨rfl,d⟩;have r:=d.1;have J:=hid (HB.out.trans d.2);have cc:=i.out n r.cov;have k:=zog _ _ cc;have f0:=H0.out n r.cov;have f1:=H1.out n r.cov;have f2:=H2.out n r.cov;have D:=O.out n r.cov;have fl:=zog _ _ f0;have x:=hid (fun w' (b1:Below n.heap.size n w')=>zeL HM.out (r.step b1) 6 9 ((b-a:Nat):Int) (by decide) (by decide) (zb8 (b-a) (by omega)) (by have:=HC.out;have:=j.out;simp only[zor];omega))
 dsimp only[MkrD.v]at x;have B0:=hid (zof n.heap.size n);have LO:=hid r.lo;clear HR d r HB;generalize((b-a:Nat):Int)=lg at*;go_wp2_with fail
 go_region_held3 (fun w'=>w'.cell? ⟨cb,0,none⟩=some (.pointer (some ⟨M.mb,0,none⟩))/\w'.cell? ⟨o,0,none⟩=some (.int .i64 f)/\w'.cell? ⟨o,1,none⟩=some (.int .i64 ff)/\w'.cell? ⟨o,2,none⟩=some (.int .i64 (a:Int))/\w'.cell? ⟨o,3,none⟩=some (.int .i64 (b:Int))) (first|exact⟨kc,k0,k1,k2,k3⟩|exact⟨za cc m,za f0 m,za f1 m,za f2 m,za D m⟩|go_keep) (first
  |(go_at_call 121;refine(G.out _).mono ?_;rintro e w4 ⟨rfl,m⟩;have m:=zh B0.out.drew m)
  |(go_at_call 75;refine(x.out _ m).mono ?_;rintro e s ⟨rfl,d⟩;have kc:=i.out s d.1.cov;have k0:=H0.out s d.1.cov;have k1:=H1.out s d.1.cov;have k2:=H2.out s d.1.cov;have k3:=O.out s d.1.cov))
 have I:=hid ((J.out.trans (m.mono LO.out)).trans d.2);have c7:=H7.out s d.1.cov;have hl:=zog _ _ c7;have k:=zog _ _ kc;have q:=hid (xy d.1 [qu 6 0 7] #[.int .i64 3,.int .i64 6,.int .i64 0,.int .i64 7,.int .i64 0,.int .u64 0] rfl 1 rfl (xq (wfB (by decide) wf0 (by decide))) (by decide) (by have:=HC.out;have:=j.out;simp only[kH,zor,List.length_cons,List.length_nil];omega) 126)
 have HN:=hid (zd2 6 0 7);have B0:=hid (zof s.heap.size s);clear x G d m J f0 f1 f2 D k0 k1 k2 k3 cc;go_wp2_with fail
 go_region_held3 (fun w'=>w'.cell? ⟨cb,0,none⟩=some (.pointer (some ⟨M.mb,0,none⟩))/\w'.cell? ⟨M.mb,7,none⟩=some (.pointer (some ⟨M.pa,0,none⟩))) (first|exact⟨V,Y⟩|exact⟨za kc (ze B0.out).drew,za c7 (ze B0.out).drew⟩|exact⟨za kc (ze (ze B0.out)).drew,za c7 (ze (ze B0.out)).drew⟩|go_keep) (first
  |(go_at_call 113;refine(HN.out _).mono ?_;rintro e U ⟨o1,rfl,rfl⟩)
  |(go_at_call 42;refine(q.out _ _ (by simp) (ze B0.out)).mono ?_;rintro e E ⟨rfl,d⟩;have Y:=H7.out E d.1.cov;have V:=i.out E d.1.cov))
 have u:=hid (I.out.trans d.2);have f2:=H2.out E d.1.cov;have D:=O.out E d.1.cov;have fl:=zog _ _ f2;have c7:=Y;have hl:=zog _ _ c7;have cc:=V;have k:=zog _ _ cc;have t:=hid d.1;clear q HN d I B0 Y V kc;by_cases R:(b:Int)/8-(a:Int)/8=0
 ·have W:=hid R;go_wp2;refine bodyPost_ret (v:=.tuple #[]) (by simp[results,Tryz.results120,go_sem]) rfl ⟨rfl,?_,u.out⟩
  rw[HX.out,if_pos W.out];have:=t.out.less N.out;simp only[List.append_assoc,List.cons_append,List.nil_append]at this ⊢;exact this
 ·have W:=hid R;have a1:((b:Int)/8-(a:Int)/8==0)=false:=by simpa using R
  have hw:0<=(b:Int)/8-(a:Int)/8/\(b:Int)/8-(a:Int)/8<1000000:=by omega
  have hm:0<=(b:Int)%8/\(b:Int)%8<1000000:=by omega
  have HW:=hid hw;have Z:=hid hm;have q:=hid (qU t.out [⟨2,0,6,0,0,0⟩] #[.int .i64 2,.int .i64 0,.int .i64 6,.int .i64 0,.int .i64 0,.int .u64 0] rfl 1 rfl (xq ⟨(by decide:yt 2),wf0,(by decide:yt 6),wf0,wf0,(by decide:kM 0)⟩) (by decide) (by have:=HC.out;have:=j.out;simp only[kH,zor,List.length_cons,List.length_nil];omega) 126)
  have B0:=hid (zof E.heap.size E);clear R t hw hm;go_wp2_with fail
  refine(q.out _ _ (by simp) B0.out).mono ?_
  rintro e U ⟨rfl,d⟩;have cc:=i.out U d.1.cov;have k:=zog _ _ cc;have D:=O.out U d.1.cov;have fl:=zog _ _ D;have x:=hid (zeL HM.out d.1 0 10 ((b:Int)%8) wf0 (by decide) (zlr Z.out) (by have:=HC.out;have:=j.out;simp only[kH,zor,List.length_cons,List.length_nil];omega))
  have F:=hid (u.out.trans d.2);dsimp only[MkrD.v]at x;clear q d u B0;go_wp2_with fail
  refine x.out.mono ?_;rintro e S ⟨rfl,d⟩;have cc:=i.out S d.1.cov;have k:=zog _ _ cc;have c7:=H7.out S d.1.cov;have hl:=zog _ _ c7;have a0:=hid (F.out.trans d.2);have q:=hid (qU d.1 [⟨14,0,0,(b:Int)/8-(a:Int)/8,0,0⟩] #[.int .i64 14,.int .i64 0,.int .i64 0,.int .i64 ((b:Int)/8-(a:Int)/8),.int .i64 0,.int .u64 0] rfl 1 rfl (xq ⟨(by decide:yt 14),wf0,wf0,zd4 HW.out,wf0,(by decide:kM 0)⟩) (by decide) (by have:=HC.out;have:=j.out;simp only[kH,zor,List.length_cons,List.length_nil];omega) 126)
  have B0:=hid (zof S.heap.size S);clear x d F;go_wp2_with fail
  refine(q.out _ _ (by simp) B0.out).mono ?_
  rintro e w9 ⟨rfl,d⟩;have d:=hid d;clear q;go_wp2;refine bodyPost_ret (v:=.tuple #[]) (by simp[results,Tryz.results120,go_sem]) rfl ⟨rfl,?_,a0.out.trans d.out.2⟩
  rw[HX.out,if_neg W.out];have:=d.out.1.less N.out;simp only[List.append_assoc,List.cons_append,List.nil_append]at this ⊢;exact this
def xH(F:Nat->Nat->Nat->List InsD)(ws:List Int):Nat->List InsD
 |0=>[]
 |i+1=>xH F ws i++F i (Mth.off ws i) (Mth.off ws (i+1))
theorem qX{F:Nat->Nat->Nat->List InsD}{ws:List Int}(h:∀i a b,(F i a b).length<=8):∀i,(xH F ws i).length<=8*i:=by
 intro i;induction i with
 |zero=>simp[xH]
 |succ i ih=>
  have:=h i (Mth.off ws i) (Mth.off ws (i+1));simp only[xH,zor];omega
theorem zbd{ws:List Int}{n:Nat}(h:∀j,j<n->0<=ws.getD j 0/\ws.getD j 0<=64):∀i,i<=n->Mth.off ws i<=64*i:=by
 intro i;induction i with
 |zero=>intro _;simp[Mth.off]
 |succ i ih=>
  intro hi;have:=ih (by omega)
  have:=h i (by omega)
  simp only[Mth.off];omega
theorem zfM{o:World}{B:Nat}{cs:List InsD}{ms:List Int}{w:World}{M:MkrD}(H:MkrAt M o)(h:St o B M.pa cs ms w){cb:Nat}(hd:Nat)(x:HeadD)(E:M.d.hs[hd]?=some x)(F:Nat->Nat->Nat->List InsD)(C:∀i a b,(F i a b).length<=8)(u:∀j,j<x.w.n->0<=x.ws.getD j 0/\x.ws.getD j 0<=64)(h8:x.w.n<=8)
 (hF:∀(i:Nat) (r:List InsD) (w':World),i<x.w.n->r.length+8<=100000->St o B M.pa r ms w'->Calls Tryz.prog 109 #[zaC (hd:Int) (i:Int) (Mth.off x.ws i) (Mth.off x.ws (i+1)),.pointer (some ⟨cb,0,none⟩)] w' (Em o B M.pa w' (.tuple #[]) (r++F i (Mth.off x.ws i) (Mth.off x.ws (i+1))) ms)) (T:cs.length+100<=100000):
 Calls Tryz.prog 108 #[M.v,.int .i64 (hd:Int),.func (.func 109) #[] #[.pointer (some ⟨cb,0,none⟩)]] w (Em o B M.pa w (.tuple #[]) (cs++xH F x.ws x.w.n) ms):=by
 have l:=H.cov h.cov;have c0:=l.box.c0;have hl:=zog _ _ c0;have W:=l.pl.hs.1;have U:hd<M.d.heads.n:=by rw[<-W];exact(zok.1 E).1
 obtain⟨g,off,x',R,A,I⟩:=zV l.pl.hs U;obtain rfl:x=x':=zoq (E.symm.trans A);rw[Nat.mul_one]at I;have cx:=I.1.1;have a2:=zog _ _ cx;have a1:(hd:Int)<(M.d.heads.n:Int):=by omega
 rw[R]at c0;have P:Hid (∀w',Cov o w'->Has .i64 w' x.w.a x.w.n x.ws):=fun w' c=>by
  obtain⟨_,_,x2,_,G,Q⟩:=zV (H.cov c).pl.hs U;obtain rfl:x=x2:=zoq (E.symm.trans G);exact Q.2
 have HF:=hid hF;have L:=hid C;have y:=hid u;have HC:=hid T;have Z:=hid h;have EA:=hid R;obtain⟨⟨xa,xn,xc⟩,ws⟩:=x;obtain⟨X,hX⟩:∃X,X=cs++xH F ws xn:=⟨_,rfl⟩;have HX:=hid hX;dsimp only[MkrD.v]at*;rw[<-hX];clear hX l W E A I hF C u T h R H;go_enter Tryz.func108,Tryz.ntmps108
 go_wp2;go_loopw [19,6,7,8] (fun k t _ _ wr=>∃i:Nat,i<=xn/\k=.int .i64 i/\t=.int .i64 (Mth.off ws i:Int)/\Hid (St o B M.pa (cs++xH F ws i) ms wr/\Below B w wr)) (fun k _ _ _ _=>xn-(intOf k).toNat)
 case atStart=>exact⟨0,zon _,rfl,rfl,by simpa[xH]using Z.out,zof _ _⟩
 case round=>
  obtain⟨i,hi,rfl,rfl,J⟩:=hrel;by_cases m:i<xn
  ·have S:(i:Int)<(xn:Int):=by omega
   obtain⟨g2,V,K,a3,f⟩:=(P.out wr J.out.1.cov).some (by omega)
   subst K;have cz:=f i m;have hz:=y.out i m;have N:=zbd y.out i (by omega)
   have a4:(Mth.off ws i:Int)+ws.getD i 0=(Mth.off ws (i+1):Int):=by
    simp only[Mth.off];omega
   have D:=hid (HF.out i _ wr m (by have:=qX (ws:=ws) L.out i;have:=HC.out;simp only[zor];omega) J.out.1)
   have Y:(cs++xH F ws i)++F i (Mth.off ws i) (Mth.off ws (i+1))=cs++xH F ws (i+1):=by rw[List.append_assoc];rfl
   rw[Y]at D;dsimp only[zaC]at D;have HJ:=hid J.out.2;have a0:Mth.off ws (i+1)<=100000:=by omega
   have a5:Mth.off ws i<=100000:=by omega
   clear f Y J N hz;generalize Mth.off ws i=o0 at*;generalize s:Mth.off ws (i+1)=o1 at*;have O:=hid s;clear s;generalize ws.getD i 0=z at*;go_wp2_with fail
   refine D.out.mono ?_;rintro e w2 ⟨rfl,q⟩;have q:=hid q;clear D;go_wp2;go_roundw
   case rel=>exact⟨i+1,by omega,by go_num,by rw[O.out],q.out.1,HJ.out.trans q.out.2⟩
   case measure=>simp[intOf];omega
  ·have S:¬(i:Int)<(xn:Int):=by omega
   obtain rfl:i=xn:=by omega
   have q:=hid J.out;clear J Z;go_wp2;refine bodyPost_ret (v:=.tuple #[]) (by simp[results,Tryz.results108,go_sem]) rfl ⟨rfl,?_,q.out.2⟩
   rw[HX.out];exact q.out.1
theorem zeG{o:World}{B:Nat}{cs:List InsD}{ms:List Int}{w:World}{M:MkrD}(H:MkrAt M o)(h:St o B M.pa cs ms w){cb:Nat}(hd:Nat)(x:HeadD)(E:M.d.hs[hd]?=some x)(F:Nat->Nat->Nat->List InsD)(C:∀i a b,(F i a b).length<=8)(u:∀j,j<x.w.n->0<=x.ws.getD j 0/\x.ws.getD j 0<=64)(h8:x.w.n<=8)
 (hF:∀(i:Nat) (r:List InsD) (w':World),i<x.w.n->r.length+8<=100000->St o B M.pa r ms w'->Calls Tryz.prog 120 #[zaC (hd:Int) (i:Int) (Mth.off x.ws i) (Mth.off x.ws (i+1)),.pointer (some ⟨cb,0,none⟩)] w' (Em o B M.pa w' (.tuple #[]) (r++F i (Mth.off x.ws i) (Mth.off x.ws (i+1))) ms)) (T:cs.length+100<=100000):
 Calls Tryz.prog 108 #[M.v,.int .i64 (hd:Int),.func (.func 120) #[] #[.pointer (some ⟨cb,0,none⟩)]] w (Em o B M.pa w (.tuple #[]) (cs++xH F x.ws x.w.n) ms):=by
 have l:=H.cov h.cov;have c0:=l.box.c0;have hl:=zog _ _ c0;have W:=l.pl.hs.1;have U:hd<M.d.heads.n:=by rw[<-W];exact(zok.1 E).1
 obtain⟨g,off,x',R,A,I⟩:=zV l.pl.hs U;obtain rfl:x=x':=zoq (E.symm.trans A);rw[Nat.mul_one]at I;have cx:=I.1.1;have a2:=zog _ _ cx;have a1:(hd:Int)<(M.d.heads.n:Int):=by omega
 rw[R]at c0;have P:Hid (∀w',Cov o w'->Has .i64 w' x.w.a x.w.n x.ws):=fun w' c=>by
  obtain⟨_,_,x2,_,G,Q⟩:=zV (H.cov c).pl.hs U;obtain rfl:x=x2:=zoq (E.symm.trans G);exact Q.2
 have HF:=hid hF;have L:=hid C;have y:=hid u;have HC:=hid T;have Z:=hid h;have EA:=hid R;obtain⟨⟨xa,xn,xc⟩,ws⟩:=x;obtain⟨X,hX⟩:∃X,X=cs++xH F ws xn:=⟨_,rfl⟩;have HX:=hid hX;dsimp only[MkrD.v]at*;rw[<-hX];clear hX l W E A I hF C u T h R H;go_enter Tryz.func108,Tryz.ntmps108
 go_wp2;go_loopw [19,6,7,8] (fun k t _ _ wr=>∃i:Nat,i<=xn/\k=.int .i64 i/\t=.int .i64 (Mth.off ws i:Int)/\Hid (St o B M.pa (cs++xH F ws i) ms wr/\Below B w wr)) (fun k _ _ _ _=>xn-(intOf k).toNat)
 case atStart=>exact⟨0,zon _,rfl,rfl,by simpa[xH]using Z.out,zof _ _⟩
 case round=>
  obtain⟨i,hi,rfl,rfl,J⟩:=hrel;by_cases m:i<xn
  ·have S:(i:Int)<(xn:Int):=by omega
   obtain⟨g2,V,K,a3,f⟩:=(P.out wr J.out.1.cov).some (by omega)
   subst K;have cz:=f i m;have hz:=y.out i m;have N:=zbd y.out i (by omega)
   have a4:(Mth.off ws i:Int)+ws.getD i 0=(Mth.off ws (i+1):Int):=by
    simp only[Mth.off];omega
   have D:=hid (HF.out i _ wr m (by have:=qX (ws:=ws) L.out i;have:=HC.out;simp only[zor];omega) J.out.1)
   have Y:(cs++xH F ws i)++F i (Mth.off ws i) (Mth.off ws (i+1))=cs++xH F ws (i+1):=by rw[List.append_assoc];rfl
   rw[Y]at D;dsimp only[zaC]at D;have HJ:=hid J.out.2;have a0:Mth.off ws (i+1)<=100000:=by omega
   have a5:Mth.off ws i<=100000:=by omega
   clear f Y J N hz;generalize Mth.off ws i=o0 at*;generalize s:Mth.off ws (i+1)=o1 at*;have O:=hid s;clear s;generalize ws.getD i 0=z at*;go_wp2_with fail
   refine D.out.mono ?_;rintro e w2 ⟨rfl,q⟩;have q:=hid q;clear D;go_wp2;go_roundw
   case rel=>exact⟨i+1,by omega,by go_num,by rw[O.out],q.out.1,HJ.out.trans q.out.2⟩
   case measure=>simp[intOf];omega
  ·have S:¬(i:Int)<(xn:Int):=by omega
   obtain rfl:i=xn:=by omega
   have q:=hid J.out;clear J Z;go_wp2;refine bodyPost_ret (v:=.tuple #[]) (by simp[results,Tryz.results108,go_sem]) rfl ⟨rfl,?_,q.out.2⟩
   rw[HX.out];exact q.out.1
structure zcI (M : MkrD) (hd : Nat) (x : HeadD) : Prop where
 at_ : M.d.hs[hd]? = some x
 ok : Mth.Head x.ws x.w.n
 slots : ∀ j : Nat, j < x.w.n -> zbh M.L ⟨(hd : Int), (j : Int)⟩ /\ 0 <= zY M.L ⟨(hd : Int), (j : Int)⟩ /\ zY M.L ⟨(hd : Int), (j : Int)⟩ < 1000
 there : hd < M.L.tl.length
 tn : 0 <= M.L.tl.getD hd 0 /\ M.L.tl.getD hd 0 < 1000
def zaD(p:PPlan)(L:LayD)(nw:Int)(hd:Nat)(ws:List Int)(n:Nat):List InsD:=⟨9,7,0,0,nw,(Mth.off ws n/8:Nat)⟩::(xH (fun i a b=>jl p L hd i a b) ws n++(kH 7 3 (Mth.off ws n/8:Nat)++zdp 1 [L.tl.getD hd 0]))
def kO(L:LayD)(hd:Nat)(ws:List Int)(n:Nat):List InsD:=xI 6 0::xH (fun i a b=>kX L hd i a b) ws n
theorem Mth.Head.le{ws:List Int}{n:Nat}(h:Mth.Head ws n):∀j,j<n->0<=ws.getD j 0/\ws.getD j 0<=64:=fun j a=>by
 have:=h.2.2.1 j a;have:=Mth.Fit.wide this;unfold Mth.Wide at this;omega
theorem zm0{D:World}{B:Nat}{cs:List InsD}{ms:List Int}{w:World}{M:MkrD}(k:MkrAt M D)(h:St D B M.pa cs ms w)(hd:Nat)(x:HeadD)(f:zcI M hd x)(t:cs.length+200<=100000):
 Calls Tryz.prog 83 #[M.v,.int .i64 (hd:Int)] w (Em D B M.pa w (.tuple #[]) (cs++kO M.L hd x.ws x.w.n) ms):=by
 obtain⟨s,h2,c3,m⟩:=h.box #[M.v] 85;have G:=hid c3;obtain⟨g,hW2⟩:∃g,g=w.alloc (.cells #[M.v] 85):=⟨_,rfl⟩;obtain⟨cb,hcb⟩:∃b,b=w.heap.size:=⟨_,rfl⟩;rw[<-hW2]at h2;have N:Below w.heap.size w g:=by rw[hW2];exact ze (zof _ _)
 have j:s.cell? ⟨cb,0,none⟩=some M.v:=by rw[hcb];exact m 0 _ rfl
 have o:Hid (∀w',Cov s w'->w'.cell? ⟨cb,0,none⟩=some M.v):=fun w' c=>c.2 _ _ _ j
 have I:=hid (N.mono h.lo);have k:=k.cov c3.cov;have P:=hid (fun w' (t:Cov s w')=>k.c7 t)
 have cc:=o.out g h2.cov;have A:=zog _ _ cc;have c7:=P.out g h2.cov;have Z:=zog _ _ c7;have J:=hid (xy h2 [xI 6 0] #[.int .i64 1,.int .i64 6,.int .i64 0,.int .i64 0,.int .i64 0,.int .u64 0] rfl 1 rfl (xq (wfN (by decide) (by decide))) (by decide) (by omega) 126)
 have K:=hid (zat 6 0);have l:=hid (fun q w' (U:St s B M.pa q ms w') (y:q.length+100<=100000)=>zeG k U (cb:=cb) hd x f.at_ (fun i a b=>kX M.L hd i a b) (fun _ _ _=>zcz _ _ _ _ _) f.ok.le f.ok.2.1
  (fun i R Y hi C H=>zls k H j (hd:Int) (i:Int) (f.slots i hi).1 (f.slots i hi).2 _ _ (Mth.off_mono _ _ _ (by omega)) (by have:=zbd f.ok.le (i+1) (by omega);have:=f.ok.2.1;omega) C) y)
 have B0:=hid (zof g.heap.size g);have T:=hid hW2;have V:=hid hcb;obtain⟨X,hX⟩:∃X,X=cs++kO M.L hd x.ws x.w.n:=⟨_,rfl⟩;rw[<-hX];have S:=hid hX;have HC:=hid t;clear k h h2 c3 m j hX hW2 hcb N f t;dsimp only[MkrD.v]at*;go_enter Tryz.func83,Tryz.ntmps83
 go_upto_region 1 with fail
 rw[<-T.out,<-V.out];go_wp2_with fail
 go_region_held3 (fun w'=>w'.cell? ⟨cb,0,none⟩=some (.pointer (some ⟨M.mb,0,none⟩))/\w'.cell? ⟨M.mb,7,none⟩=some (.pointer (some ⟨M.pa,0,none⟩))) (first|exact⟨u,O⟩|exact⟨za cc (ze B0.out).drew,za c7 (ze B0.out).drew⟩|exact⟨za cc (ze (ze B0.out)).drew,za c7 (ze (ze B0.out)).drew⟩|go_keep) (first
  |(go_at_call 43;refine(K.out _).mono ?_;rintro e Q ⟨W,rfl,rfl⟩)
  |(go_at_call 42;refine(J.out _ _ (by simp) (ze B0.out)).mono ?_;rintro e F ⟨rfl,d⟩;have O:=P.out F d.1.cov;have u:=o.out F d.1.cov))
 have E:=hid (I.out.trans d.2);have cc:=u;have A:=zog _ _ cc;have r:=hid (l.out _ F d.1 (by have:=HC.out;simp only[zor,List.length_cons,List.length_nil];omega))
 clear J K d l c7 O u B0 I;go_wp2_with fail
 refine r.out.mono ?_;rintro e Q ⟨rfl,d⟩;have d:=hid d;clear r;go_wp2;refine bodyPost_ret (v:=.tuple #[]) (by simp[results,Tryz.results83,go_sem]) rfl ⟨rfl,?_,E.out.trans d.out.2⟩
 rw[S.out];have:=d.out.1.less G.out;simp only[kO,List.append_assoc,List.cons_append,List.nil_append]at this ⊢;exact this
theorem zjT{w:World}{a:Nat}{z:Int}(h:w.cell? ⟨a,0,none⟩=some (.int .i64 z))(c:(Lit.int .i64 z).wf=true):Has .i64 w (some ⟨a,0,none⟩) 1 [z]:=by
 refine⟨rfl,?_,.inr ⟨a,0,rfl,zog w _ h,fun i hi=>?_⟩⟩
 ·intro n b;simp only[zoD,zoA,or_false]at b;subst b;exact c
 ·obtain rfl:i=0:=by omega
  exact h
theorem znC{m:Nat}{ws:List Int}(h:Mth.Head ws m):∀a c w,Has .i64 w a m ws->Calls Tryz.prog 107 #[HD a m c] w fun e w'=>e=.returned (.tuple #[.int .i64 ((Mth.off ws m/8:Nat):Int),.agg #[.int .i64 0,.int .i64 0]])/\Below w.heap.size w w':=fun a c w hw=>
 (zcX a m c ws w h.1 h.2.1 hw h.2.2.1).mono fun e w' ⟨x,b,d,hb⟩=>⟨by rw[b,d.1 h.2.2.2],hb⟩
theorem znD{W0:World}{B:Nat}{cs:List InsD}{ms:List Int}{w:World}{M:MkrD}(m:MkrAt M W0)(h:St W0 B M.pa cs ms w)(U:yt M.nw)(hd:Nat)(x:HeadD)(j:zcI M hd x)(k:cs.length+200<=100000):
 Calls Tryz.prog 73 #[M.v,.int .i64 (hd:Int)] w (Em W0 B M.pa w (.tuple #[]) (cs++zaD M.d.p M.L M.nw hd x.ws x.w.n) ms):=by
 obtain⟨D,h2,c3,O⟩:=h.box #[M.v] 85;have a8:=hid c3;obtain⟨G,hW2⟩:∃G,G=w.alloc (.cells #[M.v] 85):=⟨_,rfl⟩;obtain⟨cb,hcb⟩:∃b,b=w.heap.size:=⟨_,rfl⟩;rw[<-hW2]at h2;have b2:Below w.heap.size w G:=by rw[hW2];exact ze (zof _ _)
 have y:D.cell? ⟨cb,0,none⟩=some M.v:=by rw[hcb];exact O 0 _ rfl
 have l:Hid (∀w',Cov D w'->w'.cell? ⟨cb,0,none⟩=some M.v):=fun w' c=>c.2 _ _ _ y
 have HB:=hid (b2.mono h.lo);have m:=m.cov c3.cov;have H7:=hid (fun w' (k:Cov D w')=>m.c7 k)
 have V:=hid (fun w' (k:Cov D w')=>(m.cov k).box.c17)
 have H9:=hid (fun w' (k:Cov D w')=>(m.cov k).box.c9)
 have cc:=l.out G h2.cov;have r:=zog _ _ cc;have q:=m.cov h2.cov;have c0:=q.box.c0;have hl:=zog _ _ c0;have hn:=q.pl.hs.1;have hh:hd<M.d.heads.n:=by rw[<-hn];exact(zok.1 j.at_).1
 obtain⟨g,off,x',ea,Y,hp⟩:=zV q.pl.hs hh;obtain rfl:x=x':=zoq (j.at_.symm.trans Y);rw[Nat.mul_one]at hp;have cx:=hp.1.1;have a6:=zog _ _ cx;have c2:(hd:Int)<(M.d.heads.n:Int):=by omega
 rw[ea]at c0;have N:=hid (znC j.ok x.w.a x.w.c G hp.2);have b9:Mth.off x.ws x.w.n/8<100000:=by have:=zbd j.ok.le x.w.n (zos _);have:=j.ok.2.1;omega
 have T:=hid (fun P w' (hS:St D B M.pa P ms w') (b0:P.length+100<=100000)=>zfM m hS (cb:=cb) hd x j.at_ (fun i a b=>jl M.d.p M.L hd i a b) (fun _ _ _=>by rw[zbA];decide) j.ok.le j.ok.2.1
  (fun i c8 w2 hi d0 a9=>zmS m a9 y (hd:Int) (i:Int) (j.slots i hi).1 (j.slots i hi).2 _ _ (Mth.off_mono _ _ _ (by omega)) (by have:=zbd j.ok.le (i+1) (by omega);have:=j.ok.2.1;omega) (by omega)) b0)
 have t:Hid ((xH (fun i a b=>jl M.d.p M.L hd i a b) x.ws x.w.n).length<=64):=by
  have:=qX (F:=fun i a b=>jl M.d.p M.L hd i a b) (ws:=x.ws) (fun _ _ _=>by rw[zbA];decide) x.w.n
  have:=j.ok.2.1;show _<=_;omega
 have K:hd<M.L.th.n:=by rw[<-m.lay.th.1];exact j.there
 obtain⟨tg,C,E,_,S⟩:=m.lay.th.some (by omega)
 have R:Hid (∀w',Cov D w'->w'.cell? ⟨tg,C+hd,none⟩=some (.int .i64 (M.L.tl.getD hd 0))):=fun w' c=>c.2 _ _ _ (S hd K)
 have b8:(hd:Int)<(M.L.th.n:Int):=by omega
 have c4:=hid E;have a1:=hid j.tn;obtain⟨X,hX⟩:∃X,X=cs++zaD M.d.p M.L M.nw hd x.ws x.w.n:=⟨_,rfl⟩;rw[<-hX];unfold zaD at hX;generalize Mth.off x.ws x.w.n/8=sz at*;generalize xH (fun i a b=>jl M.d.p M.L hd i a b) x.ws x.w.n=EI at*
 have HM:=hid m;have a3:=hid h2;have b1:=hid U;have EW:=hid hW2;have EF:=hid hcb;have HX:=hid hX;have HC:=hid k;have u:Hid (kM (sz:Int)):=zb8 sz (by omega)
 have c1:IntKind.u64.wrap (sz:Int)=(sz:Int):=xF _ (by omega) (by omega)
 have EA:=hid ea;rw[E]at H9;clear m q h h2 c3 O y hX hW2 hcb b2 k U ea Y hp hn hh E S K j;generalize M.L.tl.getD hd 0=tv at*;dsimp only[MkrD.v,HD]at*;go_enter Tryz.func73,Tryz.ntmps73
 go_upto_region 1 with fail
 rw[<-EW.out,<-EF.out];go_wp2_with fail
 refine N.out.mono ?_;rintro e w3 ⟨rfl,b3⟩;have b4:Below G.heap.size G (w3.alloc (.cells #[.int .i64 0,.int .i64 0] 34)):=ze b3;have J:=a3.out.step b4;have A:=hid (HB.out.trans (b4.mono a3.out.lo));obtain⟨I,hw4⟩:∃I,I=w3.alloc (.cells #[.int .i64 0,.int .i64 0] 34):=⟨_,rfl⟩;rw[<-hw4]at J A;have b7:=hid hw4;clear N b3 b4 hw4 c0 cx a6 cc;go_upto_region 2 with fail
 rw[<-b7.out];have cc:=l.out I J.cov;have r:=zog _ _ cc;have c7:=H7.out I J.cov;have c17:=V.out I J.cov;have hl:=zog _ _ c7;have B0:=hid (zof I.heap.size I);have HP:=hid (xy J [⟨9,7,0,0,M.nw,sz⟩] #[.int .i64 9,.int .i64 7,.int .i64 0,.int .i64 0,.int .i64 M.nw,.int .u64 sz] rfl 1 rfl (xq ⟨(by decide:yt 9),(by decide:yt 7),wf0,wf0,b1.out,u.out⟩) (by decide) (by have:=HC.out;omega) 126)
 clear J;go_region_held3 (fun w'=>w'.cell? ⟨cb,0,none⟩=some (.pointer (some ⟨M.mb,0,none⟩))/\w'.cell? ⟨M.mb,7,none⟩=some (.pointer (some ⟨M.pa,0,none⟩))/\w'.cell? ⟨M.mb,17,none⟩=some (.int .i64 M.nw)) (first|exact⟨k5,k7,Q⟩|exact⟨za cc (ze B0.out).drew,za c7 (ze B0.out).drew,za c17 (ze B0.out).drew⟩|go_keep) (first
  |(go_at_call 42;refine(HP.out _ _ (by simp) B0.out).mono ?_;rintro e w6 ⟨rfl,f⟩;have k7:=H7.out w6 f.1.cov;have k5:=l.out w6 f.1.cov;have Q:=V.out w6 f.1.cov))
 have a0:=hid (A.out.trans f.2);have cc:=k5;have r:=zog _ _ cc;have a2:=hid (T.out _ w6 f.1 (by have:=HC.out;simp only[zor,List.length_cons,List.length_nil];omega))
 clear HP f T c7 c17 k7 k5 Q B0 A HB;go_wp2_with fail
 refine a2.out.mono ?_;rintro e w7 ⟨rfl,f⟩;have W:=hid (a0.out.trans f.2);have cc:=l.out w7 f.1.cov;have r:=zog _ _ cc;have HT:=hid (zeL HM.out f.1 7 3 (sz:Int) (by decide) (by decide) u.out (by have:=HC.out;have:=t.out;simp only[zor,List.length_cons,List.length_nil];omega))
 dsimp only[MkrD.v]at HT;clear a2 f a0;go_wp2_with fail
 refine HT.out.mono ?_;rintro e Z ⟨rfl,f⟩;have b5:=hid (W.out.trans f.2);have cc:=l.out Z f.1.cov;have r:=zog _ _ cc;have c9:=H9.out Z f.1.cov;have hl:=zog _ _ c9;have ct:=R.out Z f.1.cov;have c6:=zog _ _ ct;obtain⟨W5,h5,c5,s⟩:=f.1.box #[.int .i64 tv] 3;have B0:=hid (zof Z.heap.size Z);have BA:=hid (ze (o:=.cells #[.int .i64 tv] 3) B0.out);have H:=hid (zml (HM.out.cov c5.cov) (h5.step (zof _ _).drew) 1 (by decide) (zjT (s 0 _ rfl) (zd4 (by have:=a1.out;omega))) (c:=1) (by intro z hz;simp only[List.mem_singleton]at hz;subst hz;exact a1.out) (by have:=HC.out;have:=t.out;simp only[kH,zor,List.length_cons,List.length_nil];omega))
 have a5:=hid c5;have a4:=hid f.1.lo;have H5:=hid (fun w' (c:Cov W5 w')=>l.out w' ⟨zoz c5.1 c.1,fun g o v k=>c.2 _ _ _ (c5.cov.2 _ _ _ k)⟩)
 have b6:=hid (fun w' (c:Cov W5 w')=>H9.out w' ⟨zoz c5.1 c.1,fun g o v k=>c.2 _ _ _ (c5.cov.2 _ _ _ k)⟩)
 have a7:=hid (fun w' (c:Cov W5 w')=>R.out w' ⟨zoz c5.1 c.1,fun g o v k=>c.2 _ _ _ (c5.cov.2 _ _ _ k)⟩)
 dsimp only[MkrD.v]at H;clear HT f W h5 c5 s;go_wp2_with fail
 go_region_held3 (fun w'=>w'.cell? ⟨cb,0,none⟩=some (.pointer (some ⟨M.mb,0,none⟩))/\w'.cell? ⟨M.mb,9,none⟩=some (.slice (some ⟨tg,C,none⟩) M.L.th.n M.L.th.c)/\w'.cell? ⟨tg,C+hd,none⟩=some (.int .i64 tv)) (first|exact⟨k5,k9,kt⟩|exact⟨za cc BA.out.drew,za c9 BA.out.drew,za ct BA.out.drew⟩|go_keep) (first
  |(go_at_call 40;refine H.out.mono ?_;rintro e w9 ⟨rfl,f⟩;have k5:=H5.out w9 f.1.cov;have k9:=b6.out w9 f.1.cov;have kt:=a7.out w9 f.1.cov))
 have f:=hid f;clear H;go_wp2;refine bodyPost_ret (v:=.tuple #[]) (by simp[results,Tryz.results73,go_sem]) rfl ⟨rfl,?_,(b5.out.trans (BA.out.drew.mono a4.out)).trans f.out.2⟩
 rw[HX.out];have:=(f.out.1.less a5.out).less a8.out;simp only[List.append_assoc,List.cons_append,List.nil_append]at this ⊢;exact this
@[reducible] def OpD.v5(o:OpD):Value:=.agg #[.int .i64 o.kind,.int .i64 o.r.h,.int .i64 o.r.f,.int .i64 o.head,.slice o.e.a o.e.n o.e.c]
theorem zeF(L:LayD)(es:List PushD):(qV L es).length<=es.length:=by
 rw[<-zdx];exact zdy L es es.length
theorem zhS{s:World}{B:Nat}{cs:List InsD}{ms:List Int}{w:World}{M:MkrD}(k:MkrAt M s)(h:St s B M.pa cs ms w)(o:OpD)(l:o.kind=1)(G:QRow 4 PushD.lie s o.e o.es)(H:zjV M.L o.es)(A:zbh M.L o.r)(hs:0<=zY M.L o.r/\zY M.L o.r<1000)(E:cs.length+o.es.length+3<=100000):
 Calls Tryz.prog 117 #[M.v,o.v5] w (Em s B M.pa w (.tuple #[]) (cs++(qV M.L o.es++qW M.d.p M.L o.r)) ms):=by
 obtain⟨q,h2,c3,g⟩:=h.box #[.int .i64 o.kind,.int .i64 o.r.h,.int .i64 o.r.f,.int .i64 o.head,.slice o.e.a o.e.n o.e.c] 66;have x:=hid c3;obtain⟨m,hW2⟩:∃m,m=w.alloc (.cells #[.int .i64 o.kind,.int .i64 o.r.h,.int .i64 o.r.f,.int .i64 o.head,.slice o.e.a o.e.n o.e.c] 66):=⟨_,rfl⟩;obtain⟨fb,hfb⟩:∃b,b=w.heap.size:=⟨_,rfl⟩;rw[<-hW2]at h2;have D:Below w.heap.size w m:=by rw[hW2];exact ze (zof _ _)
 have H0:Hid (∀w',Cov q w'->w'.cell? ⟨fb,0,none⟩=some (.int .i64 o.kind)):=fun w' c=>c.2 _ _ _ (by rw[hfb];exact g 0 _ rfl)
 have K:Hid (∀w',Cov q w'->w'.cell? ⟨fb,1,none⟩=some (.int .i64 o.r.h)):=fun w' c=>c.2 _ _ _ (by rw[hfb];exact g 1 _ rfl)
 have S:Hid (∀w',Cov q w'->w'.cell? ⟨fb,2,none⟩=some (.int .i64 o.r.f)):=fun w' c=>c.2 _ _ _ (by rw[hfb];exact g 2 _ rfl)
 have P:Hid (∀w',Cov q w'->w'.cell? ⟨fb,4,none⟩=some (.slice o.e.a o.e.n o.e.c)):=fun w' c=>c.2 _ _ _ (by rw[hfb];exact g 4 _ rfl)
 have C:=hid (D.mono h.lo);have k:=k.cov c3.cov;have R:=hid k;have J:=hid hW2;have O:=hid hfb;have f0:=H0.out m h2.cov;have Q:=P.out m h2.cov;have fl:=zog _ _ f0;have I:=hid (znE k h2 o.e o.es (G.cov PushD.covs c3.cov) H (by omega))
 obtain⟨X,hX⟩:∃X,X=cs++(qV M.L o.es++qW M.d.p M.L o.r):=⟨_,rfl⟩;rw[<-hX];have T:=hid hX;have N:=hid A;have u:=hid hs;have HC:=hid E;have y:=hid (zeF M.L o.es);rw[l]at f0;have V:=hid l;clear k h h2 c3 g hX hW2 hfb D G H A hs E;dsimp only[MkrD.v,OpD.v5]at*;rw[l];rw[l]at J;clear l H0;go_enter Tryz.func117,Tryz.ntmps117
 go_upto_region 1 with fail
 rw[<-J.out,<-O.out];go_wp2_with fail
 refine I.out.mono ?_;rintro e F ⟨rfl,i⟩;have t:=hid (C.out.trans i.2);have f1:=K.out F i.1.cov;have f2:=S.out F i.1.cov;have fl:=zog _ _ f1;have j:=hid (zmm R.out i.1 o.r N.out u.out (by have:=HC.out;have:=y.out;simp only[zor];omega))
 dsimp only[MkrD.v]at j;clear I i C f0 Q;go_wp2_with fail
 refine j.out.mono ?_;rintro e U ⟨rfl,i⟩;have i:=hid i;clear j;go_wp2;refine bodyPost_ret (v:=.tuple #[]) (by simp[results,Tryz.results117,go_sem]) rfl ⟨rfl,?_,t.out.trans i.out.2⟩
 rw[T.out,<-List.append_assoc];exact i.out.1.less x.out
def doI(D:OpD->List InsD)(os:List OpD):List InsD:=os.flatMap D
theorem zgV{D:OpD->List InsD}{os:List OpD}{i:Nat}{o:OpD}(h:os[i]?=some o):doI D (os.take (i+1))=doI D (os.take i)++D o:=by
 rw[zoI,h];simp[doI]
theorem zjB{D:OpD->List InsD}{os:List OpD}{K:Nat}(h:∀o∈os,(D o).length<=K):∀i,(doI D (os.take i)).length<=K*i:=by
 intro i;induction i with
 |zero=>simp[doI]
 |succ i ih=>
  cases a:os[i]? with
  |none=>
   have:os.take (i+1)=os.take i:=by rw[zoI,a];simp
   rw[this];have:K*i<=K*(i+1):=Nat.mul_le_mul_left _ (by omega)
   omega
  |some o=>
   rw[zgV a,zor];have:=h o (zol a);rw[Nat.mul_succ];omega
theorem ndo{q:World}{B:Nat}{cs:List InsD}{ms:List Int}{w:World}{M:MkrD}(O:MkrAt M q)(h:St q B M.pa cs ms w)(ac:Nat)(x:ActD)(H:M.d.al[ac]?=some x)(D:OpD->List InsD)(K:Nat)(W:∀o∈x.os,(D o).length<=K)(hn:x.os.length<=100)
 (Y:∀(o:OpD) (t:List InsD) (w':World),o∈x.os->t.length+K<=90000->St q B M.pa t ms w'->Calls Tryz.prog 117 #[M.v,o.v5] w' (Em q B M.pa w' (.tuple #[]) (t++D o) ms)) (T:cs.length+K*x.os.length<=90000):
 Calls Tryz.prog 80 #[M.v,.int .i64 (ac:Int)] w (Em q B M.pa w (.tuple #[]) (cs++doI D x.os) ms):=by
 have b:=O.cov h.cov;have c3:=b.box.c3;have hl:=zog _ _ c3;have E:=b.pl.al.1;have U:ac<M.d.acts.n:=by rw[<-E];exact(zok.1 H).1
 obtain⟨g,off,x',R,C,u⟩:=zV b.pl.al U;obtain rfl:x=x':=zoq (H.symm.trans C);have cx:=u.2.1.1;have a1:=zog _ _ cx;have a0:(ac:Int)<(M.d.acts.n:Int):=by omega
 rw[R]at c3;have P:Hid (∀w',Cov q w'->QRow 5 OpD.lie w' x.ops x.os):=fun w' c=>by
  obtain⟨_,_,x2,_,L,Q⟩:=zV (O.cov c).pl.al U;obtain rfl:x=x2:=zoq (H.symm.trans L);exact Q.2.2.2
 have y:x.os.length=x.ops.n:=u.2.2.2.1;have F:=hid y;have V:x.ops.n<=100:=by omega
 have HD:=hid Y;have HK:=hid W;have HC:=hid T;have Z:=hid h;have EA:=hid R;obtain⟨xw,a2,⟨xa,xn,xc⟩,os⟩:=x;obtain⟨X,hX⟩:∃X,X=cs++doI D os:=⟨_,rfl⟩;have HX:=hid hX;dsimp only[MkrD.v]at*;rw[<-hX];clear hX b E H C u W Y T h R O y hn;go_enter Tryz.func80,Tryz.ntmps80
 go_wp2;go_loopw [16,5] (fun k _ wr=>∃i:Nat,i<=xn/\k=.int .i64 i/\Hid (St q B M.pa (cs++doI D (os.take i)) ms wr/\Below B w wr)) (fun k _ _=>xn-(intOf k).toNat)
 case atStart=>exact⟨0,zon _,rfl,by simpa[doI]using Z.out,zof _ _⟩
 case round=>
  obtain⟨i,hi,rfl,J⟩:=hrel;by_cases I:i<xn
  ·have S:(i:Int)<(xn:Int):=by omega
   obtain⟨g2,A,o,l,s,u⟩:=zV (P.out wr J.out.1.cov) (show i<xn from I)
   have l:xa=some ⟨g2,A,none⟩:=l;subst l;obtain⟨⟨p0,_⟩,⟨p1,_⟩,⟨p2,_⟩,⟨p3,_⟩,⟨p4,_⟩,_⟩:=u;have a3:=zog _ _ p0;have N:Below wr.heap.size wr (wr.alloc (.cells #[.int .i64 o.kind,.int .i64 o.r.h,.int .i64 o.r.f,.int .i64 o.head,.slice o.e.a o.e.n o.e.c] 66)):=ze (zof _ _);have j:(cs++doI D (os.take i)).length+K<=90000:=by
    have h1:=zjB HK.out i;have h2:=HC.out;have h3:K*(i+1)<=K*os.length:=Nat.mul_le_mul_left _ (by have:=F.out;omega)
    rw[Nat.mul_succ]at h3;rw[zor];omega
   have G:=hid (HD.out o _ _ (zol s) j (J.out.1.step N));rw[List.append_assoc,<-zgV s]at G;dsimp only[OpD.v5]at G;have HJ:=hid (J.out.2.trans (N.mono J.out.1.lo));clear N J s j;go_wp2_with fail
   refine G.out.mono ?_;rintro e w2 ⟨rfl,m⟩;have m:=hid m;clear G;go_wp2;go_roundw
   case rel=>exact⟨i+1,by omega,by go_num,m.out.1,HJ.out.trans m.out.2⟩
   case measure=>simp[intOf];omega
  ·have S:¬(i:Int)<(xn:Int):=by omega
   obtain rfl:i=xn:=by omega
   have m:=hid J.out;clear J Z;go_wp2;refine bodyPost_ret (v:=.tuple #[]) (by simp[results,Tryz.results80,go_sem]) rfl ⟨rfl,?_,m.out.2⟩
   have e:os.take i=os:=by rw[<-F.out,List.take_length]
   have:=m.out.1;rw[e]at this;rw[HX.out];exact this
structure FBox (w W : World) (fb : Nat) : Prop where
 f : W.heap[fb]? = some (.cells #[.int .i64 0, .int .i64 0] 34 (0, 0))
 wf : w.heap.size <= fb
structure zmO (W : World) (fb : Nat) : Prop where
 c0 : W.cell? ⟨fb, 0, none⟩ = some (.int .i64 0)
 c1 : W.cell? ⟨fb, 1, none⟩ = some (.int .i64 0)
 z0 : W.frozen? ⟨fb, 0, none⟩ = false
 z1 : W.frozen? ⟨fb, 1, none⟩ = false
 l : fb < W.heap.size
@[reducible] def ProgD.withC(q:ProgD)(cs:List InsD):ProgD:=⟨q.slots,q.tabs,q.ts,q.code,cs⟩
structure DonAt (W2 : World) (pb : Nat) (q : ProgD) (wx : World) : Prop where
 bel : Below W2.heap.size W2 wx
 box : wx.heap[pb]? = some (.cells #[.int .i64 q.slots, .slice q.tabs.a q.tabs.n q.tabs.c, .slice q.code.a q.code.n q.code.c] 44 (0, 0))
 lo : W2.heap.size <= pb
 lie : q.lie wx
 own : OwnB q W2 wx
theorem OwnB.step{q:ProgD}{W w w':World}(h:OwnB q W w)(b:Below w.heap.size w w'):OwnB q W w':=
 ⟨fun ad ha=>by obtain⟨⟨a,c⟩,d⟩:=h.1 ad ha;exact⟨⟨a,(b.block _ (zoj.1 c).1).trans c⟩,d⟩,fun ad ha=>by obtain⟨⟨a,c⟩,d⟩:=h.2 ad ha;exact⟨⟨a,(b.block _ (zoj.1 c).1).trans c⟩,d⟩⟩
theorem DonAt.step{a:World}{pb:Nat}{q:ProgD}{w w':World}(h:DonAt a pb q w)(b:Below w.heap.size w w'):DonAt a pb q w':=
 ⟨zh h.bel b,(b.block _ (zoj.1 h.box).1).trans h.box,h.lo,h.lie.step b,h.own.step b⟩
theorem qO{w:World}{g o b c:Nat}{u v:Value}(h:w.cell? ⟨g,o,none⟩=some v)(a:¬(g=b/\o=c)):(w.setCell ⟨b,c,none⟩ u).cell? ⟨g,o,none⟩=some v:=
 (zou _ _ _ _ (by intro e;simp only[Addr.mk.injEq]at e;exact a ⟨e.1.symm,e.2.1.symm⟩)).trans h
theorem CI.setO{w:World}{g o b c:Nat}{u:Value}{n:Int}(h:CI w g o n)(a:¬(g=b/\o=c)):CI (w.setCell ⟨b,c,none⟩ u) g o n:=⟨qO h.1 a,h.2⟩
theorem CU.setO{w:World}{g o b c:Nat}{u:Value}{n:Int}(h:CU w g o n)(a:¬(g=b/\o=c)):CU (w.setCell ⟨b,c,none⟩ u) g o n:=⟨qO h.1 a,h.2⟩
theorem DonAt.put{G:World}{pb:Nat}{q:ProgD}{L:List InsD}{w:World}(h:DonAt G pb (q.withC L) w){i:Nat}{x:InsD}{g off:Nat}(K:L[i]?=some x)(ha:q.code.a=some ⟨g,off,none⟩)(m:Int)(N:yt m):
 DonAt G pb (q.withC (L.set i ⟨x.op,x.r,x.s,x.k,m,x.n⟩)) (w.setCell ⟨g,off+i*6+4,none⟩ (.int .i64 m)):=by
 obtain⟨⟨I,D⟩,f⟩:=h.own.1 _ ha;have D:w.heap[g]?=some (.cells I 126 (0,0)):=D;have f:G.heap.size<=g:=f;have J:pb≠g:=fun e=>by
  have:=h.box;rw[e,D]at this;simp at this
 have C:∀ad:Addr,q.tabs.a=some ad->ad.block≠g:=fun ad hd e=>by
  obtain⟨⟨o,l⟩,_⟩:=h.own.2 ad hd;rw[e,D]at l;simp at l
 refine⟨h.bel.setCell (p:=⟨g,_,none⟩) f _,?_,h.lo,⟨h.lie.ws,h.lie.n1,h.lie.n2,⟨h.lie.t.1,fun j y u=>?_⟩,⟨?_,fun j y u=>?_⟩⟩,⟨fun ad hd=>?_,fun ad hd=>?_⟩⟩
 ·rw[zop _ _ _ _ (by show pb≠g;exact J)]
  exact h.box
 ·obtain⟨A,E,e,b⟩:=h.lie.t.2 j y u;have M:A≠g:=C _ e;exact⟨A,E,e,b.1.setO (by omega),b.2.1.setO (by omega),b.2.2.setO (by omega)⟩
 ·show(L.set i _).length=_;rw[List.length_set];exact h.lie.c.1
 ·have u:(L.set i ⟨x.op,x.r,x.s,x.k,m,x.n⟩)[j]?=some y:=u;by_cases e:i=j
  ·subst e;have hi:=(zok.1 K).1;rw[List.getElem?_set_self hi]at u;obtain rfl:=zoq u;obtain⟨A,E,H,b⟩:=h.lie.c.2 i x K;have d:q.code.a=some ⟨A,E,none⟩:=H;rw[ha]at d;simp only[zoo,Addr.mk.injEq,and_true]at d;obtain⟨rfl,rfl⟩:=d;exact⟨g,off,ha,b.1.setO (by omega),b.2.1.setO (by omega),b.2.2.1.setO (by omega),b.2.2.2.1.setO (by omega),⟨zot _ _ _ b.2.2.2.2.1.1,N⟩,b.2.2.2.2.2.setO (by omega)⟩
  ·rw[List.getElem?_set_ne e]at u;obtain⟨A,E,H,b⟩:=h.lie.c.2 j y u;have d:q.code.a=some ⟨A,E,none⟩:=H;rw[ha]at d;simp only[zoo,Addr.mk.injEq,and_true]at d;obtain⟨rfl,rfl⟩:=d;exact⟨g,off,ha,b.1.setO (by omega),b.2.1.setO (by omega),b.2.2.1.setO (by omega),b.2.2.2.1.setO (by omega),b.2.2.2.2.1.setO (by omega),b.2.2.2.2.2.setO (by omega)⟩
 ·have B:q.code.a=some ad:=hd;rw[ha]at B;obtain rfl:=zoq B;exact⟨⟨_,yx D (off+i*6+4) (.int .i64 m)⟩,f⟩
 ·obtain⟨⟨o,l⟩,F⟩:=h.own.2 ad hd;exact⟨⟨o,(zop _ _ _ _ (by exact C ad hd)).trans l⟩,F⟩
def upL(ms:List Int)(cs:List InsD):Nat->List InsD
 |0=>cs
 |i+1=>match cs[i]? with
  |none=>upL ms cs i
  |some x=>(upL ms cs i).set i (zej ms i x)
theorem zgI(ms:List Int)(cs:List InsD):∀i,(upL ms cs i).length=cs.length
 |0=>rfl
 |i+1=>by
  rw[upL];cases cs[i]? with
  |none=>exact zgI ms cs i
  |some x=>dsimp only;rw[List.length_set];exact zgI ms cs i
theorem zdS(ms:List Int)(cs:List InsD):∀i j,(upL ms cs i)[j]?=if j<i then cs[j]?.map (zej ms (j:Int))else cs[j]?
 |0,j=>by rw[if_neg (by omega)];rfl
 |i+1,j=>by
  rw[upL];cases h:cs[i]? with
  |none=>
   dsimp only;rw[zdS ms cs i j];by_cases e:j=i
   ·subst e;rw[if_neg (by omega),if_pos (by omega),h]
    rfl
   ·by_cases a:j<i
    ·rw[if_pos a,if_pos (by omega)]
    ·rw[if_neg a,if_neg (by omega)]
  |some x=>
   dsimp only;by_cases e:i=j
   ·subst e;rw[List.getElem?_set_self (by rw[zgI];exact(zok.1 h).1),if_pos (by omega),h]
    rfl
   ·rw[List.getElem?_set_ne e,zdS ms cs i j];by_cases a:j<i
    ·rw[if_pos a,if_pos (by omega)]
    ·rw[if_neg a,if_neg (by omega)]
theorem zdT{ms:List Int}{cs:List InsD}{i:Nat}{x:InsD}(h:cs[i]?=some x):(upL ms cs i)[i]?=some x:=by rw[zdS,if_neg (by omega)];exact h
theorem zem{ms:List Int}{cs:List InsD}{i:Nat}{x:InsD}(h:cs[i]?=some x):upL ms cs (i+1)=(upL ms cs i).set i (zej ms i x):=by rw[upL,h]
theorem ziY{ms:List Int}{cs:List InsD}{i:Nat}{x:InsD}(h:cs[i]?=some x)(a:ym x.op=false):upL ms cs (i+1)=upL ms cs i:=by
 rw[zem h];refine List.ext_getElem? fun j=>?_
 by_cases e:i=j
 ·subst e;rw[List.getElem?_set_self (by rw[zgI];exact(zok.1 h).1),zdT h]
  unfold zej;rw[a,if_neg (by decide)]
 ·rw[List.getElem?_set_ne e]
theorem zla(ms:List Int)(cs:List InsD):upL ms cs cs.length=kL ms cs 0:=by
 refine List.ext_getElem? fun j=>?_
 rw[zdS,zk8,zoK];by_cases h:j<cs.length
 ·rw[if_pos h]
 ·rw[if_neg h,List.getElem?_eq_none (by omega)]
  rfl
theorem zmA{ms:List Int}{i:Nat}{x:InsD}(a:ym x.op=true):zej ms i x=⟨x.op,x.r,x.s,x.k,(toN ms i x.to).1,x.n⟩:=by unfold zej;rw[a,if_pos rfl]
theorem zhq{ms:List Int}{slots:Int}{ts:List ShapeD}{cs:List InsD}{j:Nat}{x:InsD}(h:∀(k:Nat) t,k<j->cs[k]?=some t->yW ms k t=0)(b:cs[j]?=some x)(a:ym x.op=true)(hb:(toN ms j x.to).2≠0):kU ms slots ts cs=((toN ms j x.to).2,(j:Int)):=by
 have e:yW ms j x=(toN ms j x.to).2:=by unfold yW;rw[a,if_pos rfl]
 have:=zk9 h b (by rw[e];exact hb)
 unfold kU;rw[this,e,if_pos hb]
theorem ziZ{ms:List Int}{slots:Int}{ts:List ShapeD}{cs:List InsD}(h:∀(k:Nat) t,k<cs.length->cs[k]?=some t->yW ms k t=0):kU ms slots ts cs=xJ slots ts (kL ms cs 0):=by
 unfold kU;rw[ziW h,if_neg (by simp)]
theorem zce{ms:List Int}{cs:List InsD}{i:Nat}{x:InsD}(h:∀(k:Nat) t,k<i->cs[k]?=some t->yW ms k t=0)(b:cs[i]?=some x)(h0:yW ms i x=0):∀(k:Nat) t,k<i+1->cs[k]?=some t->yW ms k t=0:=by
 intro k t c a;by_cases e:k=i
 ·subst e;rw[b]at a;obtain rfl:=zoq a;exact h0
 ·exact h k t (by omega) a
theorem zi0{slots:Int}{ts:List ShapeD}{cs:List InsD}(h:(xJ slots ts cs).1=0):xJ slots ts cs=(0,0):=by
 have:(xJ slots ts cs).2=0:=by
  unfold xJ at h ⊢;by_cases a:(yS slots ts cs.length).1≠0
  ·rw[if_pos a]at h;exact absurd h a
  rw[if_neg a]at h ⊢;by_cases h2:(kG slots ts cs.length cs 0).1≠0
  ·rw[if_pos h2]at h;exact absurd h h2
  rw[if_neg h2]at h ⊢;by_cases b:jh ((cs[cs.length-1]?.map InsD.op).getD 0)=true
  ·rw[if_pos b]
  ·rw[if_neg b]at h;simp at h
 exact Prod.ext h this
theorem zmB{ms:List Int}{i:Nat}{l:Int}{N:Nat}(a:∀m∈ms,-1<=m/\m<=(N:Int))(c:N<=100000):yt (toN ms i l).1:=by
 have h0:yt 0:=by decide
 unfold toN;split
 ·exact h0
 ·rename_i h
  split
  ·exact h0
  ·rename_i h2
   have b:l.toNat<ms.length:=by omega
   have:ms.getD l.toNat 0∈ms:=by
    rw[zoi,zoh b,zoC];exact List.getElem_mem _
   have:=a _ this;generalize ms.getD l.toNat 0=mm at*;simp[yt,Lit.wf,IntKind.min,IntKind.max,IntKind.bits,IntKind.signed];omega
theorem LabAt.row{T:TypeId}{B:Nat}{d:LabD}{w:World}(h:LabAt T B d w):QRow 6 InsD.lie w ⟨d.la,d.cs.length,d.lc⟩ d.cs/\QSl.nil0 ⟨d.la,d.cs.length,d.lc⟩:=by
 obtain⟨c,h2,_⟩:=zcx (cells:=yL) (k:=6) (P:=InsD.lie) (fun _=>rfl) (by decide) h.code (fun x a g o b=>⟨⟨b 0 _ rfl,(h.wf x a).1⟩,⟨b 1 _ rfl,(h.wf x a).2.1⟩,⟨b 2 _ rfl,(h.wf x a).2.2.1⟩,⟨b 3 _ rfl,(h.wf x a).2.2.2.1⟩,⟨b 4 _ rfl,(h.wf x a).2.2.2.2.1⟩,⟨b 5 _ rfl,(h.wf x a).2.2.2.2.2⟩⟩)
 exact⟨c,h2⟩
theorem zgJ{e f:World}{pb:Nat}{slots:Int}{ts:List ShapeD}{cs:List InsD}{n l:Option Addr}{tn m cn cc:Nat}(hs:yt slots)(c:∀x∈ts,x.wf)(a:∀x∈cs,x.wf)(hb:Below e.heap.size e f)
 (b:f.heap[pb]?=some (.cells #[.int .i64 slots,.slice n tn m,.slice l cn cc] 44 (0,0))) (r:e.heap.size<=pb)
 (i:f.ownsRow e.heap.size 41 3 (.slice n tn m) tn (ts.flatMap yK)) (j:f.ownsRow e.heap.size 126 6 (.slice l cn cc) cn (cs.flatMap yL)):
 DonAt e pb ⟨slots,⟨n,tn,m⟩,ts,⟨l,cn,cc⟩,cs⟩ f:=by
 obtain⟨r1,n1,f1⟩:=zcx (cells:=yK) (k:=3) (P:=ShapeD.lie) (fun _=>rfl) (by decide) i (fun x b g o h=>⟨⟨h 0 _ rfl,(c x b).1⟩,⟨h 1 _ rfl,(c x b).2.1⟩,⟨h 2 _ rfl,(c x b).2.2⟩⟩)
 obtain⟨q,n2,f2⟩:=zcx (cells:=yL) (k:=6) (P:=InsD.lie) (fun _=>rfl) (by decide) j (fun x b g o h=>⟨⟨h 0 _ rfl,(a x b).1⟩,⟨h 1 _ rfl,(a x b).2.1⟩,⟨h 2 _ rfl,(a x b).2.2.1⟩,⟨h 3 _ rfl,(a x b).2.2.2.1⟩,⟨h 4 _ rfl,(a x b).2.2.2.2.1⟩,⟨h 5 _ rfl,(a x b).2.2.2.2.2⟩⟩)
 exact⟨hb,b,r,⟨hs,n1,n2,r1,q⟩,⟨fun ad d=>jO j d,fun ad d=>jO i d⟩⟩
structure zl2 where
 code : Int
 at_ : Int
 n : Int
 port : Int
 out : List Int
def zaQ(k:VMK)(ts:List ShapeD)(C:VMD->InsD->Int × VMD)(cs:List InsD):Nat->Nat->Nat->VMD->zl2
 |0,_,_,_=>⟨0,0,0,0,[]⟩
 |f+1,i,d,m=>match cs[i]? with
  |none=>⟨0,0,0,0,[]⟩
  |some x=>if(xO k ts C m x).1≠0 then⟨(xO k ts C m x).1,i,0,0,[]⟩else if jh x.op=true then⟨0,0,d,if x.op=17 then -1 else(((xO k ts C m x).2.rn x.r.toNat%65536:Nat):Int),if x.op=17 then[]else(xO k ts C m x).2.out⟩else zaQ k ts C cs f (i+1+if qF k (xO k ts C m x).2 x=true then x.to.toNat else 0) (d+1) (xO k ts C m x).2
structure zl3 (cs : List InsD) : Prop where
 fit : ∀ (i : Nat) (x : InsD), cs[i]? = some x -> zm8 x /\ 0 <= x.to /\ (ym x.op = true -> i + 1 + x.to.toNat < cs.length)
 ends : ∀ x : InsD, cs[cs.length - 1]? = some x -> jh x.op = true
 some : 0 < cs.length
 few : cs.length <= 60000
def RunDone(W:World)(R:zl2)(e:Ending)(w':World):Prop:=∃v,e=.returned (.tuple #[v,.int .i64 R.n,.agg #[.int .i64 R.code,.int .i64 R.at_]])/\ResV R.port R.out v w'/\Below W.heap.size W w'
theorem zc0{k:VMK}{m:VMD}{x:InsD}(h:qF k m x=true):ym x.op=true:=by
 unfold qF at h;split at h
 ·rename_i e;rw[e];rfl
 split at h
 ·rename_i e;rw[e];rfl
 split at h
 ·rename_i e;rw[e];rfl
 ·have:x.op=12:=by simpa using h
  rw[this];rfl
theorem zkI{k:VMK}{ts:List ShapeD}{C:VMD->InsD->Int × VMD}{m:VMD}{x:InsD}(b:zm8 x)(a:x.op≠13)(c:k.zs.length<=600):(xO k ts C m x).2.out.length<=m.out.length+600:=by
 unfold xO;repeat' split
 all_goals first
  |(show m.out.length<=_;omega)
  |(show(m.out++_).length<=_;rw[zor,zc1];have:=b.pt (by assumption);omega)
  |(show(m.out++_).length<=_;rw[zor,List.length_drop];omega)
  |(exfalso;exact a (by assumption))
theorem zbr{k:IntKind}{w:World}{a:Option Addr}{len:Nat}{zs:List Int}(h:Has k w a len zs){q:Addr}{u:Value}(d:w.cell? q=some u)(g:∀n,u≠.int k n)(v:Value):Has k (w.setCell q v) a len zs:=by
 refine⟨h.1,h.2.1,?_⟩;rcases h.2.2 with h|⟨b,off,rfl,c,f⟩
 ·exact .inl h
 ·refine .inr ⟨b,off,rfl,by rw[zow];exact c,fun i hi=>?_⟩
  rw[zou _ _ _ _ (by
   intro e;rw[e,f i hi]at d;exact g _ (zoq d).symm)]
  exact f i hi
structure RBox (rb fb : Nat) (w : World) : Prop where
 r : w.heap[rb]? = some (.cells #[.int .i64 0, .slice none 0 0] 50 (0, 0))
 f : w.heap[fb]? = some (.cells #[.int .i64 0, .int .i64 0] 34 (0, 0))
theorem RBox.fram{c a b:Nat}{w w':World}(h:RBox c a w)(hf:GFram b w w')(d:c≠b)(h2:a≠b):RBox c a w':=⟨hf.2 _ _ _ _ d (by decide) h.r,hf.2 _ _ _ _ h2 (by decide) h.f⟩
theorem RBox.step{b a:Nat}{w w':World}(h:RBox b a w)(hb:Below w.heap.size w w'):RBox b a w':=⟨(hb.block _ (zoj.1 h.r).1).trans h.r,(hb.block _ (zoj.1 h.f).1).trans h.f⟩
structure znP (rb fb : Nat) (w : World) : Prop where
 r0 : w.cell? ⟨rb, 0, none⟩ = some (.int .i64 0)
 r1 : w.cell? ⟨rb, 1, none⟩ = some (.slice none 0 0)
 f0 : w.cell? ⟨fb, 0, none⟩ = some (.int .i64 0)
 f1 : w.cell? ⟨fb, 1, none⟩ = some (.int .i64 0)
 z0 : w.frozen? ⟨rb, 0, none⟩ = false
 z1 : w.frozen? ⟨rb, 1, none⟩ = false
 y0 : w.frozen? ⟨fb, 0, none⟩ = false
 y1 : w.frozen? ⟨fb, 1, none⟩ = false
 rl : rb < w.heap.size
 fl : fb < w.heap.size
theorem RBox.cells{b a:Nat}{w:World}(h:RBox b a w):znP b a w:=⟨by simp[World.cell?,h.r],by simp[World.cell?,h.r],by simp[World.cell?,h.f],by simp[World.cell?,h.f],by simp[World.frozen?,h.r],by simp[World.frozen?,h.r],by simp[World.frozen?,h.f],by simp[World.frozen?,h.f],(zoj.1 h.r).1,(zoj.1 h.f).1⟩
theorem zcb{W:World}{d b:Nat}{w:World}(h:RBox d b w)(f:d≠b)(g:W.heap.size<=d)(h2:W.heap.size<=b)(hb:Below W.heap.size W w){port c i:Int}{a:Option Addr}{n cc:Nat}{out:List Int}(hr:Has .u8 w a n out):
 Has .u8 ((((w.setCell ⟨d,0,none⟩ (.int .i64 port)).setCell ⟨d,1,none⟩ (.slice a n cc)).setCell ⟨b,0,none⟩ (.int .i64 c)).setCell ⟨b,1,none⟩ (.int .i64 i)) a n out/\Below W.heap.size W ((((w.setCell ⟨d,0,none⟩ (.int .i64 port)).setCell ⟨d,1,none⟩ (.slice a n cc)).setCell ⟨b,0,none⟩ (.int .i64 c)).setCell ⟨b,1,none⟩ (.int .i64 i)):=by
 have k:=h.cells;have far:∀{w:World} {o p:Nat} {v:Value},(w.setCell ⟨d,p,none⟩ v).cell? ⟨b,o,none⟩=w.cell? ⟨b,o,none⟩:=World.cell?_setCell_far _ _ _ _ (by show d≠b;exact f)
 refine⟨zbr (zbr (zbr (zbr hr k.r0 (fun n e=>by cases e) _) (zC (by decide) k.r1) (fun n e=>by cases e) _) (far.trans (far.trans k.f0)) (fun n e=>by cases e) _) (zC (by decide) (far.trans (far.trans k.f1))) (fun n e=>by cases e) _,?_⟩
 exact(((hb.setCell (p:=⟨d,0,none⟩) g _).setCell (p:=⟨d,1,none⟩) g _).setCell (p:=⟨b,0,none⟩) h2 _).setCell (p:=⟨b,1,none⟩) h2 _
theorem zhf{x:InsD}{w:World}{q:Nat}(h:w.heap[q]?=some (.cells #[.int .i64 x.op,.int .i64 x.r,.int .i64 x.s,.int .i64 x.k,.int .i64 x.to,.int .u64 x.n] 126 (0,0))):IBox x w q:=⟨by simp[World.cell?,h],by simp[World.cell?,h],by simp[World.cell?,h],by simp[World.cell?,h],by simp[World.cell?,h],by simp[World.cell?,h]⟩
theorem zl4{k:VMK}{cs:List InsD}(hf:zl3 cs){i:Nat}{x:InsD}(a:cs[i]?=some x)(b:¬jh x.op=true)(m:VMD):(i+1+if qF k m x=true then x.to.toNat else 0)<cs.length:=by
 have hi:=(zok.1 a).1;split
 ·rename_i hl
  exact(hf.fit i x a).2.2 (zc0 hl)
 ·rcases Nat.lt_or_ge (i+1) cs.length with h|h
  ·exact h
  ·exact absurd (hf.ends x (by rw[show cs.length-1=i by omega];exact a)) b
theorem ziA{k:VMK}{ts:List ShapeD}{C:VMD->InsD->Int × VMD}{cs:List InsD}(hf:zl3 cs):∀(f a i d:Nat) (m:VMD),i<cs.length->cs.length-i<=f->cs.length-i<=a->zaQ k ts C cs f i d m=zaQ k ts C cs a i d m:=by
 intro f;induction f with
 |zero=>intro a i d m b h2;omega
 |succ f ih=>
  intro a i d m b h2 e;cases a with
  |zero=>omega
  |succ a=>
   have c:cs[i]?=some cs[i]:=zoh b;rw[zaQ,zaQ,c];dsimp only;split
   ·rfl
   split
   ·rfl
   ·rename_i he
    have:=zl4 (k:=k) hf c he (xO k ts C m cs[i]).2;exact ih a _ _ _ this (by omega) (by omega)
theorem zn8{W:World}{b:Nat}{k:VMK}{m:VMD}{w:World}(ts:List ShapeD)(C:VMD->InsD->Int × VMD)(h:VMAt W b k m w)(hk:znR W k)(cs:List InsD)(s:QSl)(hc:QRow 6 InsD.lie W s cs)(hf:zl3 cs)(d7:∀x∈cs,x.op≠13)(ho:m.out=[]):
 Calls Tryz.prog 26 #[kQ b,.slice s.a s.n s.c] w (RunDone W (zaQ k ts C cs cs.length 0 1 m)):=by
 obtain⟨R,hR⟩:∃R,R=zaQ k ts C cs cs.length 0 1 m:=⟨_,rfl⟩;rw[<-hR];obtain⟨W2,hW2⟩:∃W2,W2=(w.alloc (.cells #[.int .i64 0,.slice none 0 0] 50)).alloc (.cells #[.int .i64 0,.int .i64 0] 34):=⟨_,rfl⟩;obtain⟨rb,hrb⟩:∃b,b=w.heap.size:=⟨_,rfl⟩;obtain⟨fb,hfb⟩:∃b,b=w.heap.size+1:=⟨_,rfl⟩;have b2:Below w.heap.size w W2:=by rw[hW2];exact ze (ze (zof _ _))
 have e0:=h.lt;have c9:=h.low;have d9:Hid (RBox rb fb W2):=by
  refine⟨?_,?_⟩
  ·rw[hW2,hrb];have:=heap_alloc_new w (.cells #[.int .i64 0,.slice none 0 0] 50);rw[(ze (o:=.cells #[.int .i64 0,.int .i64 0] 34) (zof (w.alloc (.cells #[.int .i64 0,.slice none 0 0] 50)).heap.size _)).block w.heap.size (by simp)]
   exact this
  ·rw[hW2,hfb];have:=heap_alloc_new (w.alloc (.cells #[.int .i64 0,.slice none 0 0] 50)) (.cells #[.int .i64 0,.int .i64 0] 34);simpa using this
 have y:Hid (rb≠b/\fb≠b/\rb≠fb/\W.heap.size<=rb/\W.heap.size<=fb):=⟨by omega,by omega,by omega,by omega,by omega⟩
 have HM:=hid (h.step b2);have HR:=hid hR;have HC:=hid hc;have HF:=hid hf;have HK:=hid hk;have c8:=hid d7;have hn:cs.length=s.n:=hc.1;have HN:=hid hn;have e5:s.n<=60000:=by rw[<-hn];exact hf.few
 have d4:0<s.n:=by rw[<-hn];exact hf.some
 have EW:=hid hW2;have ER:=hid hrb;have EF:=hid hfb;have HO:=hid ho;have G:=hid (fun n w=>zmi n w)
 clear h hk hc hf d7 ho hR hW2 hrb hfb b2 hn e0 c9;go_enter Tryz.func26,Tryz.ntmps26
 go_wp2;rw[<-EW.out,<-EF.out,<-ER.out];clear EW EF ER;go_loopw [7,8,9,10] (fun v7 v8 _ _ wr=>∃(i d:Nat) (H:VMD),i<s.n/\v7=.int .i64 i/\v8=.int .i64 d/\d<=i+1/\Hid (zaQ k ts C cs (s.n-i) i d H=R)/\Hid (VMAt W b k H wr)/\Hid (GFram b W2 wr)/\Hid (H.out.length<=600*d)) (fun v7 _ _ _ _=>s.n-(intOf v7).toNat)
 case atStart=>exact⟨0,1,m,d4,rfl,rfl,zos _,by rw[Nat.sub_zero,<-HN.out];exact HR.out.symm,HM,GFram.refl _ _,by rw[HO.out];exact zon _⟩
 case round=>
  obtain⟨i,d,H,hi,rfl,rfl,hd,l,X,d0,a0⟩:=hrel;obtain⟨g,off,x,ea,hx,⟨x0,_⟩,⟨x1,_⟩,⟨x2,_⟩,⟨x3,_⟩,⟨x4,_⟩,⟨x5,_⟩⟩:=zV (HC.out.step InsD.keeps X.out.bel) hi;have e9:(i:Int)<(s.n:Int):=by omega
  have d8:g<wr.heap.size:=zog _ _ x0;obtain⟨Y,d5,a1⟩:=HF.out.fit i x hx;have I:=c8.out x (zol hx);have j:Hid (zaQ k ts C cs (s.n-i) i d H=if(xO k ts C H x).1≠0 then⟨(xO k ts C H x).1,i,0,0,[]⟩else if jh x.op=true then⟨0,0,d,if x.op=17 then -1 else(((xO k ts C H x).2.rn x.r.toNat%65536:Nat):Int),if x.op=17 then[]else(xO k ts C H x).2.out⟩else zaQ k ts C cs (s.n-i-1) (i+1+if qF k (xO k ts C H x).2 x=true then x.to.toNat else 0) (d+1) (xO k ts C H x).2):=by
   show _=_;obtain⟨f,hfu⟩:∃f,s.n-i=f+1:=⟨s.n-i-1,by omega⟩
   rw[hfu,zaQ,hx,Nat.add_sub_cancel]
  obtain⟨W3,hW3⟩:∃W3,W3=wr.alloc (.cells #[.int .i64 x.op,.int .i64 x.r,.int .i64 x.s,.int .i64 x.k,.int .i64 x.to,.int .u64 x.n] 126):=⟨_,rfl⟩;obtain⟨q,hq⟩:∃q,q=wr.heap.size:=⟨_,rfl⟩;have b3:Below wr.heap.size wr W3:=by rw[hW3];exact ze (zof _ _)
  have K:W3.heap[q]?=some (.cells #[.int .i64 x.op,.int .i64 x.r,.int .i64 x.s,.int .i64 x.k,.int .i64 x.to,.int .u64 x.n] 126 (0,0)):=by rw[hW3,hq];exact heap_alloc_new wr _
  have b8:q≠b:=by have:=X.out.lt;omega
  have d1:k.zs.length<=600:=by rw[HK.out.has.1];exact HK.out.few
  have b4:=a0.out;have e3:d<=60000:=by omega
  have Q:=hid (znS ts C (X.out.step b3) HK.out x Y I (by omega))
  have u:Hid ((xO k ts C H x).2.out.length<=600*(d+1)):=by
   have:=zkI (k:=k) (ts:=ts) (C:=C) (m:=H) Y I d1;show _<=_;omega
  rw[ea];have F:=zhf K;have j0:=F.c0;have j1:=F.c1;have j2:=F.c2;have j3:=F.c3;have j4:=F.c4;have j5:=F.c5;have b7:q<W3.heap.size:=zog _ _ j0;have a3:=hid K;have L:=hid (d0.out.trans (GFram.below b3));have b9:=hid hW3;have EQ:=hid hq;have B:=hid Y;have M:=hid d5;have HJ:=hid a1;have HX:=hid hx;have e4:=hid b8;generalize hS:xO k ts C H x=S at*;obtain⟨c,m2⟩:=S;dsimp only at Q j u;dsimp only[InsD.v]at Q;clear F K b3 hW3 hq Y d5 a1 hx b8 d1 b4 e3 a0 X d0 hS I;go_upto_region 5 with fail
  rw[<-b9.out,<-EQ.out];clear b9 EQ x0 x1 x2 x3 x4 x5 d8;go_wp2_with fail
  refine Q.out.mono ?_;rintro e w4 ⟨rfl,b5,U⟩;clear j0 j1 j2 j3 j4 j5 b7 Q;have N:=U.2 _ _ _ _ e4.out (by decide) a3.out
  have F:=zhf N;have A:=hid (d9.out.fram (L.out.trans U) y.out.1 y.out.2.1);have E:=hid b5;have T:=hid (L.out.trans U);have P:=hid F;have j0:=F.c0;have j1:=F.c1;have j2:=F.c2;have j3:=F.c3;have j4:=F.c4;have j5:=F.c5;have b7:q<w4.heap.size:=zog _ _ j0;clear N F b5 U L a3;by_cases a9:c=0
  ·subst a9;rw[if_neg (by decide)]at j
   cases O:jh x.op with
   |true=>
    rw[O,if_pos rfl]at j;have d6:x.op=16\/x.op=17:=by unfold jh at O;simpa using O
    have a4:=hid (zl1 E.out x B.out.r d6);dsimp only[InsD.v]at a4;have EE:=hid O;clear O d6;go_wp2_with fail
    refine(G.out _ _).mono ?_;rintro e w5 ⟨rfl,rfl⟩;rw[EE.out];clear G EE;go_wp2_with fail
    refine a4.out.mono ?_;rintro e w6 ⟨v,rfl,⟨a,cc,rfl,hh,Z,a2⟩,D⟩;have J:=hid (A.out.step D);obtain⟨k0,k1,k2,k3,k4,k5,k6,k7,k8,k9⟩:=J.out.cells;have e1:=y.out.2.2.1;generalize b0:(if x.op=17 then(-1:Int)else((m2.rn x.r.toNat%65536:Nat):Int))=port at*
    generalize b1:(if x.op=17 then([]:List Int)else m2.out)=out at*
    generalize V:out.length=ol at*;have HD:Hid (RunDone W R (.returned (.tuple #[.agg #[.int .i64 port,.slice a ol cc],.int .i64 (d:Int),.agg #[.int .i64 0,.int .i64 0]])) ((((w6.setCell ⟨rb,0,none⟩ (.int .i64 port)).setCell ⟨rb,1,none⟩ (.slice a ol cc)).setCell ⟨fb,0,none⟩ (.int .i64 0)).setCell ⟨fb,1,none⟩ (.int .i64 0))):=by
     have hr:=l.out;rw[j.out]at hr;obtain⟨b6,a5⟩:=zcb (port:=port) (c:=0) (i:=0) (cc:=cc) J.out y.out.2.2.1 y.out.2.2.2.1 y.out.2.2.2.2 (zh E.out.bel D) hh;rw[<-hr];refine⟨_,rfl,⟨a,cc,?_,?_,Z,?_⟩,a5⟩
     ·rw[<-V]
     ·rw[V];exact b6
     ·rw[V];exact a2
    clear l j E T A P B M HJ HX u j0 j1 j2 j3 j4 j5 a4 hh Z a2 D b0 b1 V J;go_wp2;exact bodyPost_ret (v:=.tuple #[.agg #[.int .i64 port,.slice a ol cc],.int .i64 (d:Int),.agg #[.int .i64 0,.int .i64 0]]) (by simp[results,Tryz.results26,go_sem, *]) rfl HD.out
   |false=>
    rw[O,if_neg (by decide)]at j
    have e2:i+1<s.n:=by
     rcases Nat.lt_or_ge (i+1) s.n with h|h
     ·exact h
     ·have:=HF.out.ends x (by rw[HN.out,show s.n-1=i by omega];exact HX.out)
      rw[O]at this;cases this
    have c6:0<=x.s/\x.s<10:=B.out.s.resolve_left (c8.out x (zol HX.out));have a7:=hid (zm5 E.out HK.out.few x B.out.r c6 B.out.n0.1);dsimp only[InsD.v]at a7;have EE:=hid O;have e7:=xE ((i:Int)+1) (by omega) (by omega)
    have e8:=xE ((d:Int)+1) (by omega) (by omega)
    have a8:Hid (qF k m2 x=true->i+1+x.to.toNat<s.n):=fun h=>by
     have:=HJ.out (zc0 h);rw[HN.out]at this;exact this
    clear O c6;go_wp2_with fail
    refine(G.out _ _).mono ?_;rintro e w5 ⟨rfl,rfl⟩;rw[EE.out];clear EE;go_wp2_with fail
    refine a7.out.mono ?_;rintro e w6 ⟨rfl,D⟩;clear a7 j0 j1 j2 j3 j4 j5;have j4:=(P.out.step D).c4;have f0:q<w6.heap.size:=zog _ _ j4;have d2:=hid (E.out.step D);have d3:=hid (T.out.trans (GFram.below D));clear D E T P A;cases hl:qF k m2 x with
    |true=>
     rw[hl,if_pos rfl]at j;have hj:=a8.out hl;obtain⟨t,ht⟩:∃t:Nat,x.to=t:=⟨x.to.toNat,by have:=M.out;omega⟩
     rw[ht]at j4 hj j;rw[zov]at hj j;have e6:=xE ((i:Int)+1+(t:Int)) (by omega) (by omega)
     have a6:Hid (zaQ k ts C cs (s.n-(i+1+t)) (i+1+t) (d+1) m2=R):=by
      show _=_;rw[<-l.out,j.out];exact ziA HF.out _ _ _ _ _ (by rw[HN.out];exact hj) (by rw[HN.out];exact zos _) (by rw[HN.out];omega)
     clear hl l j a8 M B HJ HX ht;go_wp2;go_roundw
     case rel=>exact⟨i+1+t,d+1,m2,hj,by go_num,by go_num,by omega,a6,d2,d3,u⟩
     case measure=>simp[intOf];omega
    |false=>
     rw[hl,if_neg (by decide),Nat.add_zero]at j
     have a6:Hid (zaQ k ts C cs (s.n-(i+1)) (i+1) (d+1) m2=R):=by
      show _=_;rw[<-l.out,j.out,Nat.sub_sub]
     clear hl l j a8 M B HJ HX;go_wp2;go_roundw
     case rel=>exact⟨i+1,d+1,m2,e2,by go_num,by go_num,by omega,a6,d2,d3,u⟩
     case measure=>simp[intOf];omega
  ·have f1:(c !=0)=true:=by simpa using a9
   obtain⟨k0,k1,k2,k3,k4,k5,k6,k7,k8,k9⟩:=A.out.cells;have e1:=y.out.2.2.1;have HD:Hid (RunDone W R (.returned (.tuple #[.agg #[.int .i64 0,.slice none 0 0],.int .i64 0,.agg #[.int .i64 c,.int .i64 (i:Int)]])) ((((w4.setCell ⟨rb,0,none⟩ (.int .i64 0)).setCell ⟨rb,1,none⟩ (.slice none 0 0)).setCell ⟨fb,0,none⟩ (.int .i64 c)).setCell ⟨fb,1,none⟩ (.int .i64 (i:Int)))):=by
    have hr:=l.out;rw[j.out,if_pos a9]at hr;obtain⟨_,a5⟩:=zcb (port:=0) (c:=c) (i:=(i:Int)) (cc:=0) A.out y.out.2.2.1 y.out.2.2.2.1 y.out.2.2.2.2 E.out.bel (zW .u8 w4);rw[<-hr];exact⟨_,rfl,⟨none,0,rfl,zW _ _,fun _=>⟨rfl,rfl⟩,zos _⟩,a5⟩
   clear l j E T A P B M HJ HX u j0 j1 j2 j3 j4 j5;go_wp2;exact bodyPost_ret (v:=.tuple #[.agg #[.int .i64 0,.slice none 0 0],.int .i64 0,.agg #[.int .i64 c,.int .i64 (i:Int)]]) (by simp[results,Tryz.results26,go_sem, *]) rfl HD.out
theorem zlV{slots:Int}{ts:List ShapeD}{m:Int}:∀{cs:List InsD} {i:Int},(kG slots ts m cs i).1=0->∀(j:Nat) x,cs[j]?=some x->qt slots ts m (i+j) x=0:=by
 intro cs;induction cs with
 |nil=>intro i _ j x a;simp at a
 |cons y r ih=>
  intro i h j x a;rw[kG]at h;by_cases b:qt slots ts m i y=0
  ·rw[if_pos b]at h;cases j with
   |zero=>
    simp only[List.getElem?_cons_zero,zoo]at a;subst a;simpa using b
   |succ j=>
    have:=ih h j x (by simpa using a)
    rw[<-this];congr 1
    omega
  ·rw[if_neg b]at h;exact absurd h b
theorem znM{slots:Int}{ts:List ShapeD}{cs:List InsD}(hw:∀x∈cs,x.wf)(h:(xJ slots ts cs).1=0):zl3 cs/\(ts=[]->∀x∈cs,x.op≠13):=by
 unfold xJ at h;by_cases b:(yS slots ts cs.length).1≠0
 ·rw[if_pos b]at h;exact absurd h b
 rw[if_neg b]at h;by_cases h2:(kG slots ts cs.length cs 0).1≠0
 ·rw[if_pos h2]at h;exact absurd h h2
 rw[if_neg h2]at h;have b:(yS slots ts cs.length).1=0:=by simpa using b
 have h2:(kG slots ts cs.length cs 0).1=0:=by simpa using h2
 unfold yS at b;by_cases o:inB slots 0 96=false
 ·rw[if_pos o]at b;exact absurd b (by decide)
 rw[if_neg o]at b;have B:=inB_iff.1 (by simpa using o:inB slots 0 96=true)
 by_cases k:(decide (5<(ts.length:Int))||!inB cs.length 1 60000)=true
 ·rw[if_pos k]at b;exact absurd b (by decide)
 simp only[Bool.or_eq_true,decide_eq_true_eq,Bool.not_eq_true',not_or,Bool.not_eq_false]at k;have D:=inB_iff.1 k.2;have f:∀(i:Nat) (x:InsD),cs[i]?=some x->(zaA x&&jg slots ts x)=true/\(ym x.op&&decide ((cs.length:Int)-1-i<=x.to))=false:=fun i x d=>by
  have:=zlV h2 i x d;rw[Int.zero_add]at this;unfold qt at this;by_cases c:(zaA x&&jg slots ts x)=false
  ·rw[if_pos c]at this;exact absurd this (by decide)
  rw[if_neg c]at this;by_cases g:(ym x.op&&decide ((cs.length:Int)-1-i<=x.to))=true
  ·rw[if_pos g]at this;exact absurd this (by decide)
  exact⟨by simpa using c,by simpa using g⟩
 refine⟨⟨fun i x d=>?_,fun x d=>?_,by omega,by omega⟩,fun w x d=>?_⟩
 ·obtain⟨c,g⟩:=f i x d;have hi:=(zok.1 d).1;have j:=hw x (zol d);have y:=bounds_u64 j.2.2.2.2.2;unfold zaA zcu at c;simp only[Bool.and_eq_true,Bool.or_eq_true,decide_eq_true_eq,inB_iff]at c;obtain⟨⟨⟨⟨t,C⟩,q,A⟩,s⟩,a⟩:=c;refine⟨⟨⟨⟨q.1,by omega⟩,A.imp (fun h=>h) (fun h=>⟨h.1,by omega⟩),fun h7=>?_,t⟩,⟨by omega,by omega⟩,fun r=>?_,fun l=>?_⟩,s,fun u=>?_⟩
  ·unfold jg at a;rw[if_neg (by omega),if_neg (by omega),if_neg (by omega),if_neg (by omega),if_pos h7]at a
   have:x.n<slots:=by simpa using a
   omega
  ·unfold jg at a;rw[if_neg (by omega),if_pos r]at a
   simp only[Bool.and_eq_true,decide_eq_true_eq,inB_iff]at a;omega
  ·unfold jg at a;rw[if_neg (by omega),if_neg (by omega),if_pos l]at a
   have:=inB_iff.1 a;omega
  ·rw[u,Bool.true_and]at g;have:=of_decide_eq_false g;omega
 ·by_cases e:jh ((cs[cs.length-1]?.map InsD.op).getD 0)=true
  ·rw[d]at e;exact e
  ·rw[if_neg e]at h;exact absurd (show(18:Int)=0 from h) (by decide)
 ·obtain⟨i,hi,rfl⟩:=zoR d;intro m;obtain⟨c,_⟩:=f i _ (zoh hi);simp only[Bool.and_eq_true]at c;have a:=c.2;unfold jg at a;rw[if_neg (by omega),if_neg (by omega),if_neg (by omega),if_neg (by omega),if_neg (by omega),if_pos m]at a
  unfold zeC at a;rw[w]at a;simp at a
theorem zfo(sa:Option Addr)(sn sc:Nat)(w:World):Calls Tryz.prog 52 #[.slice none 0 0,.slice sa sn sc] w (zw (decide (sn=0)) w):=by
 by_cases h:sn=0
 ·subst h;rw[zoY rfl];go_enter Tryz.func52,Tryz.ntmps52
  go_wp2;go_loopw [14,5,6] (fun q _ _ wr=>q=.int .i64 0/\wr=w) (fun _ _ _ _=>0)
  case atStart=>exact⟨rfl,rfl⟩
  case round=>
   obtain⟨rfl,rfl⟩:=hrel;go_wp2;go_ret;exact⟨rfl,zof _ _⟩
 ·rw[zoX h];have hb:((0:Int) !=(sn:Int))=true:=by
   rw[bne_iff_ne];omega
  go_enter Tryz.func52,Tryz.ntmps52
  go_wp2;go_ret;exact⟨rfl,zof _ _⟩
def kR(d:ProgD)(H:Bool)(n:Nat)(port:Int):Int × Int:=
 if(xJ d.slots d.ts d.cs).1≠0 then xJ d.slots d.ts d.cs else if H=false then(2,-1)else if 600<n then(14,-1)else if port<0\/65535<port then(1,-1)else(0,0)
theorem zm9(d:ProgD)(tv:Value)(H:Bool)(pa:Option Addr)(C pc:Nat)(port:Int)(w:World)(hl:d.lie w)(hs:d.small)(I:∀w',Below w.heap.size w w'->Calls Tryz.prog 52 #[tv,.slice d.tabs.a d.tabs.n d.tabs.c] w' (zw H w')):
 Calls Tryz.prog 25 #[d.v,tv,.slice pa C pc,.int .i64 port] w (za6 (kR d H C port) w):=by
 obtain⟨m,hW1⟩:∃m,m=(w.alloc (.cells #[.int .i64 d.slots,.slice d.tabs.a d.tabs.n d.tabs.c,.slice d.code.a d.code.n d.code.c] 44)).alloc (.cells #[.int .i64 0,.int .i64 0] 34):=⟨_,rfl⟩;obtain⟨pb,hpb⟩:∃b,b=w.heap.size:=⟨_,rfl⟩;obtain⟨fb,hfb⟩:∃b,b=w.heap.size+1:=⟨_,rfl⟩;have R:Below w.heap.size w m:=by rw[hW1];exact ze (ze (zof _ _))
 have PB:Hid (PBox d m pb):=by rw[hW1,hpb];exact(za7 d w).step (ze (zof _ _))
 have FB:Hid (m.cell? ⟨fb,0,none⟩=some (.int .i64 0)/\m.cell? ⟨fb,1,none⟩=some (.int .i64 0)/\m.frozen? ⟨fb,0,none⟩=false/\m.frozen? ⟨fb,1,none⟩=false/\w.heap.size<=fb):=by
  show _/\_;rw[hW1,hfb];refine⟨by simp,by simp,by simp,by simp,by omega⟩
 have r:=hid (zjt d m (hl.step R) hs);have X:=hid R;have W:Hid _:=I;have EW:=hid hW1;have EP:=hid hpb;have EF:=hid hfb;dsimp only[ProgD.v]at r ⊢;obtain⟨S,g⟩:∃S,S=kR d H C port:=⟨_,rfl⟩;rw[<-g];unfold kR at g;have F:∀(f:Int × Int) (w':World),S=f->Below w.heap.size w w'->za6 S w (.returned (.agg #[.int .i64 f.1,.int .i64 f.2])) w':=fun f w' e h=>⟨by rw[e],h⟩
 have l:=hid F;generalize xJ d.slots d.ts d.cs=K at*;obtain⟨kc,ka⟩:=K;dsimp only[za6]at g r;have s:=hid g;clear hl hs I hW1 hpb hfb R F g;go_enter Tryz.func25,Tryz.ntmps25
 go_upto_region 1 with fail
 rw[<-EW.out,<-EF.out,<-EP.out];obtain⟨Z,L,p2⟩:=PB.out;have x:pb<m.heap.size:=zog _ _ Z;go_wp2_with fail
 refine r.out.mono ?_;rintro e w2 ⟨rfl,G⟩;clear r EW EP EF Z L p2 x;obtain⟨j,hW3⟩:∃j,j=w2.alloc (.cells #[.int .i64 kc,.int .i64 ka] 34):=⟨_,rfl⟩;obtain⟨qb,hqb⟩:∃b,b=w2.heap.size:=⟨_,rfl⟩;have t:Below m.heap.size m j:=by rw[hW3];exact ze G
 have q0:j.cell? ⟨qb,0,none⟩=some (.int .i64 kc):=by rw[hW3,hqb];simp
 have q1:j.cell? ⟨qb,1,none⟩=some (.int .i64 ka):=by rw[hW3,hqb];simp
 have Q:qb<j.heap.size:=zog _ _ q0;obtain⟨f0,f1,f2,f3,N⟩:=FB.out;have y0:=za f0 t;have y1:=za f1 t;have y2:=(t.frozen (p:=⟨fb,0,none⟩) (zog _ _ f0)).trans f2;have Y:=(t.frozen (p:=⟨fb,1,none⟩) (zog _ _ f1)).trans f3;have O:fb<j.heap.size:=zog _ _ y0;have L:=(PB.out.step t).c1;have x:pb<j.heap.size:=zog _ _ L;have U:=hid (zh X.out t);have a1:=hid N;have M:=hid hW3;have P:=hid hqb;have y:Hid (∀k,Below j.heap.size j k->∀u v,Below w.heap.size w ((k.setCell ⟨fb,0,none⟩ u).setCell ⟨fb,1,none⟩ v)):=fun k hb u v=>((zh (zh X.out t) hb).setCell (p:=⟨fb,0,none⟩) N _).setCell (p:=⟨fb,1,none⟩) N _
 have J:Hid (∀k,Below j.heap.size j k->k.cell? ⟨fb,0,none⟩=some (.int .i64 0)/\k.cell? ⟨fb,1,none⟩=some (.int .i64 0)/\k.frozen? ⟨fb,0,none⟩=false/\k.frozen? ⟨fb,1,none⟩=false/\fb<k.heap.size):=fun k hb=>⟨za y0 hb,za y1 hb,(hb.frozen (p:=⟨fb,0,none⟩) O).trans y2,(hb.frozen (p:=⟨fb,1,none⟩) O).trans Y,zom O hb.size⟩
 clear G hW3 hqb t f0 f1 f2 f3 N;by_cases T:kc=0
 ·subst T;have E:=hid (W.out j U.out);go_upto_region 2 with fail
  rw[<-M.out,<-P.out];clear M P;go_wp2_with fail
  refine E.out.mono ?_;rintro e k ⟨rfl,A⟩;obtain⟨z0,z1,z2,z3,zl⟩:=J.out k A;have i:=hid (y.out k A);clear E W q0 q1 Q y0 y1 y2 Y O L x A J y;have g:=s.out;rw[if_neg (by decide)]at g
  clear s;cases H with
  |false=>
   rw[if_pos rfl]at g;have q:=hid g;clear g;go_wp2;exact bodyPost_ret (v:=.agg #[.int .i64 2,.int .i64 (-1)]) (by simp[results,Tryz.results25,go_sem, *]) rfl (l.out (2,-1) _ q.out (i.out _ _))
  |true=>
   rw[if_neg (by decide)]at g
   by_cases hn:600<C
   ·rw[if_pos hn]at g;have V:(600:Int)<(C:Int):=by omega
    have q:=hid g;clear g;go_wp2;exact bodyPost_ret (v:=.agg #[.int .i64 14,.int .i64 (-1)]) (by simp[results,Tryz.results25,go_sem, *]) rfl (l.out (14,-1) _ q.out (i.out _ _))
   rw[if_neg hn]at g;have V:¬(600:Int)<(C:Int):=by omega
   by_cases D:port<0\/65535<port
   ·rw[if_pos D]at g;have q:=hid g;clear g;by_cases o:port<0
    ·have d1:=zoY o;go_wp2;exact bodyPost_ret (v:=.agg #[.int .i64 1,.int .i64 (-1)]) (by simp[results,Tryz.results25,go_sem, *]) rfl (l.out (1,-1) _ q.out (i.out _ _))
    ·have d1:=zoX o;have B:65535<port:=D.resolve_left o;have d2:=zoY B;go_wp2;exact bodyPost_ret (v:=.agg #[.int .i64 1,.int .i64 (-1)]) (by simp[results,Tryz.results25,go_sem, *]) rfl (l.out (1,-1) _ q.out (i.out _ _))
   ·rw[if_neg D]at g;have o:¬port<0:=fun h=>D (.inl h)
    have B:¬65535<port:=fun h=>D (.inr h)
    have d1:=zoX o;have d2:=zoX B;have q:=hid g;clear g D;go_wp2;exact bodyPost_ret (v:=.agg #[.int .i64 0,.int .i64 0]) (by simp[results,Tryz.results25,go_sem, *]) rfl (l.out (0,0) _ q.out (i.out _ _))
 ·have g:=s.out;rw[if_pos T]at g;clear s;have a0:(kc !=0)=true:=by simpa using T
  have q:=hid g;have i:=hid (y.out j (zof _ _));clear g W;go_upto_region 2 with fail
  rw[<-M.out,<-P.out];clear M P;go_wp2;exact bodyPost_ret (v:=.agg #[.int .i64 kc,.int .i64 ka]) (by simp[results,Tryz.results25,go_sem, *]) rfl (l.out (kc,ka) _ q.out (i.out _ _))
end Go.Proofs.YtdajaaondlekfaaGreat
