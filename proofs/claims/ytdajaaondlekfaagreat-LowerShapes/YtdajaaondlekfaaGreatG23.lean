import Derived.Test.YtdajaaondlekfaaGreatG20
import Derived.Test.YtdajaaondlekfaaGreatG19
import Derived.Test.YtdajaaondlekfaaGreatG22
import Derived.Deep.RegionHeld3
set_option maxHeartbeats 16000000
set_option maxRecDepth 20000
set_option linter.unusedSimpArgs false
namespace Go.Proofs.YtdajaaondlekfaaGreat
open Go.RowKit
def zab(M:MkrD)(t:Int):Int:=if t=1000 then M.nl.getD 0 0 else if t=1001 then M.nw else M.sl.getD t.toNat 0
def zmt(M:MkrD)(t:Int):Prop:=(t=1000/\0<M.nl.length)\/t=1001\/∃k:Nat,t=k/\k<M.sl.length/\k<1000
theorem zn4{j w:World}{M:MkrD}(f:MkrAt M j)(d:Cov j w)(t:Int)(u:zmt M t):Calls Tryz.prog 77 #[M.v,.int .i64 t] w fun e w'=>e=.returned (.int .i64 (zab M t))/\w'=w:=by
 have b:=f.cov d;have c15:=b.box.c15;have c16:=b.box.c16;have c17:=b.box.c17;have y:=zog _ _ c15;rcases u with⟨rfl,h0⟩|rfl|⟨k,rfl,o,m⟩
 ·have e:zab M 1000=M.nl.getD 0 0:=rfl;rw[e];have h:=b.nd.1;obtain⟨g,off,c,r,a⟩:=b.nd.some (by omega)
  have i:=a 0 (by omega)
  rw[Nat.add_zero]at i;rw[c]at c16;have x:(0:Int)<(M.nd.n:Int):=by omega
  have l:0<M.nd.n:=by omega
  have q:=hid c;clear f d b a e c h h0;dsimp only[MkrD.v];generalize M.nl.getD 0 0=z at*;go_enter Tryz.func77,Tryz.ntmps77
  go_wp2;exact bodyPost_ret (v:=.int .i64 z) (by simp[results,Tryz.results77,go_sem]) rfl ⟨rfl,rfl⟩
 ·have e:zab M 1001=M.nw:=rfl;rw[e];clear f d b e;dsimp only[MkrD.v];go_enter Tryz.func77,Tryz.ntmps77
  go_wp2;exact bodyPost_ret (v:=.int .i64 M.nw) (by simp[results,Tryz.results77,go_sem]) rfl ⟨rfl,rfl⟩
 ·have n1:¬(k:Int)=1000:=by omega
  have n2:¬(k:Int)=1001:=by omega
  have e:zab M (k:Int)=M.sl.getD k 0:=by unfold zab;rw[if_neg n1,if_neg n2,zov]
  rw[e];have h:=b.st.1;obtain⟨g,off,c,r,a⟩:=b.st.some (by omega)
  have i:=a k (by omega)
  rw[c]at c15;have s:(k:Int)<(M.st.n:Int):=by omega
  have q:=hid c;clear f d b a e c h o;dsimp only[MkrD.v];generalize M.sl.getD k 0=z at*;go_enter Tryz.func77,Tryz.ntmps77
  go_wp2;exact bodyPost_ret (v:=.int .i64 z) (by simp[results,Tryz.results77,go_sem]) rfl ⟨rfl,rfl⟩
theorem zjS(p:PPlan)(L:LayD)(nw:Int)(hd:Nat)(ws:List Int)(n:Nat)(h:n<=8):(zaD p L nw hd ws n).length<=100:=by
 have:=qX (F:=fun i a b=>jl p L hd i a b) (ws:=ws) (fun _ _ _=>by rw[zbA];decide) n
 simp only[zaD,zdp,List.length_cons,zor,zoE,List.length_nil];omega
theorem zlH{W0:World}{B:Nat}{cs:List InsD}{ms:List Int}{w:World}{M:MkrD}(o:MkrAt M W0)(h:St W0 B M.pa cs ms w)(E:yt M.nw)(n:Nat)(s:StateD)(hs:M.d.ss[n]?=some s)(hn:n<M.sl.length)(C:s.cases.n=0)(hd:Nat)(m:s.head=(hd:Int))(x:HeadD)(hx:zcI M hd x)(hw:zmt M s.els)(H:yt (zab M s.els))(T:cs.length+300<=100000):
 Calls Tryz.prog 44 #[M.v,.int .i64 (n:Int)] w (Em W0 B M.pa w (.tuple #[]) (cs++(zaD M.d.p M.L M.nw hd x.ws x.w.n++[xB (zab M s.els)])) (jm ms (M.sl.getD n 0) cs.length)):=by
 obtain⟨D,h2,c3,t⟩:=h.box #[.int .i64 s.head,.int .i64 s.r.h,.int .i64 s.r.f,.slice s.cases.a s.cases.n s.cases.c,.int .i64 s.els] 60;have a5:=hid c3;obtain⟨l,hW2⟩:∃l,l=w.alloc (.cells #[.int .i64 s.head,.int .i64 s.r.h,.int .i64 s.r.f,.slice s.cases.a s.cases.n s.cases.c,.int .i64 s.els] 60):=⟨_,rfl⟩;obtain⟨fb,hfb⟩:∃b,b=w.heap.size:=⟨_,rfl⟩;rw[<-hW2]at h2;have b2:Below w.heap.size w l:=by rw[hW2];exact ze (zof _ _)
 have H0:Hid (∀w',Cov D w'->w'.cell? ⟨fb,0,none⟩=some (.int .i64 (hd:Int))):=fun w' c=>c.2 _ _ _ (by rw[hfb,<-m];exact t 0 _ rfl)
 have H3:Hid (∀w',Cov D w'->w'.cell? ⟨fb,3,none⟩=some (.slice s.cases.a 0 s.cases.c)):=fun w' c=>c.2 _ _ _ (by rw[hfb,<-C];exact t 3 _ rfl)
 have H4:Hid (∀w',Cov D w'->w'.cell? ⟨fb,4,none⟩=some (.int .i64 s.els)):=fun w' c=>c.2 _ _ _ (by rw[hfb];exact t 4 _ rfl)
 have HB:=hid (b2.mono h.lo);have q:=o.cov h.cov;have c2:=q.box.c2;have b3:=zog _ _ c2;have a3:n<M.d.states.n:=by rw[<-q.pl.ss.1];exact(zok.1 hs).1
 obtain⟨g,off,s',ea,I,hp⟩:=zV q.pl.ss a3;obtain rfl:s=s':=zoq (hs.symm.trans I);obtain⟨⟨x0,_⟩,⟨x1,_⟩,⟨x2,_⟩,⟨x3,_⟩,⟨x4,_⟩,_⟩:=hp;have a9:=zog _ _ x0;have b1:(n:Int)<(M.d.states.n:Int):=by omega
 rw[ea]at c2;have o:=o.cov c3.cov;have HM:=hid o;have Y:=hid (fun w' (T:Cov D w')=>o.c7 T)
 have Z:n<M.st.n:=by rw[<-o.st.1];exact hn
 obtain⟨S,W,G,_,R⟩:=o.st.some (by omega)
 have F:Hid (∀w',Cov D w'->w'.cell? ⟨M.mb,15,none⟩=some (.slice (some ⟨S,W,none⟩) M.st.n M.st.c)):=fun w' c=>by rw[<-G];exact(o.cov c).box.c15
 have O:Hid (∀w',Cov D w'->w'.cell? ⟨S,W+n,none⟩=some (.int .i64 (M.sl.getD n 0))):=fun w' c=>c.2 _ _ _ (R n Z)
 have a8:(n:Int)<(M.st.n:Int):=by omega
 have N:=hid (fun w' (b:Below l.heap.size l w')=>zbc (h2.step b) (M.sl.getD n 0))
 have c7:=Y.out l h2.cov;have c15:=F.out l h2.cov;have u:=O.out l h2.cov;have J:=zog _ _ c7;have a7:=zog _ _ u;have B0:=hid (zof l.heap.size l);have a0:=hid h2.lo;have EW:=hid hW2;have EF:=hid hfb;have a4:=hid E;have a1:=hid hx;have HC:=hid T;have HW:=hid hw;have Q:=hid H;have a6:=hid (zjS M.d.p M.L M.nw hd x.ws x.w.n hx.ok.2.1);obtain⟨X,hX⟩:∃X,X=cs++(zaD M.d.p M.L M.nw hd x.ws x.w.n++[xB (zab M s.els)]):=⟨_,rfl⟩;rw[<-hX];have HX:=hid hX;have EA:=hid ea;have b4:=hid m;rw[m]at x0 EW;rw[C]at x3 EW;clear hX h h2 c3 t hW2 hfb b2 q hs I ea o R E hx T hw H m C G;generalize M.sl.getD n 0=lab at*;dsimp only[MkrD.v]at*;go_enter Tryz.func44,Tryz.ntmps44
 go_upto_region 1 with fail
 rw[<-EW.out,<-EF.out];go_region_held3 (fun w'=>w'.cell? ⟨M.mb,7,none⟩=some (.pointer (some ⟨M.pa,0,none⟩))/\w'.cell? ⟨M.mb,15,none⟩=some (.slice (some ⟨S,W,none⟩) M.st.n M.st.c)/\w'.cell? ⟨S,W+n,none⟩=some (.int .i64 lab)) (first|exact⟨V,P,ks⟩|go_keep) (first
  |(go_at_call 72;refine(N.out _ B0.out.drew).mono ?_;rintro e U ⟨rfl,i⟩;have V:=Y.out U i.1.cov;have P:=F.out U i.1.cov;have ks:=O.out U i.1.cov))
 have K:=hid ((HB.out.trans (B0.out.drew.mono a0.out)).trans i.2);have f0:=H0.out U i.1.cov;have fl:=zog _ _ f0;have HT:=hid (znD HM.out i.1 a4.out hd x a1.out (by have:=HC.out;omega))
 have b0:(0:Int)<=(hd:Int):=by omega
 dsimp only[MkrD.v]at HT;clear N i c7 c15 u V P ks a7 J HB;go_wp2_with fail
 refine HT.out.mono ?_;rintro e w4 ⟨rfl,i⟩;have a2:=hid (K.out.trans i.2);have f3:=H3.out w4 i.1.cov;have fl:=zog _ _ f3;have j:=hid i.1;clear HT i K f0;go_wp2;go_loopw [37,6] (fun k _ wr=>k=.int .i64 0/\Hid (wr=w4)) (fun _ _ _=>0)
 case atStart=>exact⟨rfl,rfl⟩
 case round=>
  obtain⟨rfl,A⟩:=hrel;have A:=A.out;subst A;have c7:=Y.out wr j.out.cov;have J:=zog _ _ c7;have f4:=H4.out wr j.out.cov;have y:=hid (fun w' (b:Below wr.heap.size wr w')=>zn4 HM.out (zas j.out.cov b) s.els HW.out)
  have HP:=hid (xy j.out [xB (zab M s.els)] #[.int .i64 12,.int .i64 0,.int .i64 0,.int .i64 0,.int .i64 (zab M s.els),.int .u64 0] rfl 1 rfl (xq ⟨(by decide:yt 12),wf0,wf0,wf0,Q.out,(by decide:kM 0)⟩) (by decide) (by have:=HC.out;have:=a6.out;simp only[zor];omega) 126)
  have HJ:=hid (zmp (zab M s.els));have B0:=hid (zof wr.heap.size wr);dsimp only[MkrD.v]at y;clear j Q f3;generalize zab M s.els=wy at*;go_wp2_with fail
  go_region_held3 (fun w'=>w'.cell? ⟨M.mb,7,none⟩=some (.pointer (some ⟨M.pa,0,none⟩))/\w'.cell? ⟨fb,4,none⟩=some (.int .i64 s.els)) (first|exact⟨V,k4⟩|exact⟨za c7 B0.out.drew,za f4 B0.out.drew⟩|exact⟨za c7 (ze B0.out).drew,za f4 (ze B0.out).drew⟩|exact⟨za c7 (ze (ze B0.out)).drew,za f4 (ze (ze B0.out)).drew⟩|go_keep) (first
   |(go_at_call 77;refine(y.out _ B0.out.drew).mono ?_;rintro e w5 ⟨rfl,rfl⟩)
   |(go_at_call 78;refine(HJ.out _).mono ?_;rintro e w5 ⟨o1,rfl,rfl⟩)
   |(go_at_call 42;refine(HP.out _ _ (by simp) (ze B0.out)).mono ?_;rintro e w6 ⟨rfl,i⟩;have V:=Y.out w6 i.1.cov;have k4:=H4.out w6 i.1.cov))
  have i:=hid i;clear HP HJ y;go_wp2;refine bodyPost_ret (v:=.tuple #[]) (by simp[results,Tryz.results44,go_sem]) rfl ⟨rfl,?_,a2.out.trans i.out.2⟩
  rw[HX.out,<-List.append_assoc];exact i.out.1.less a5.out
theorem zmX{W0:World}{B:Nat}{cs:List InsD}{ms:List Int}{w:World}{M:MkrD}(j:MkrAt M W0)(h:St W0 B M.pa cs ms w)(n:Nat)(s:NodeD)(hs:M.d.ns[n]?=some s)(hn:n<M.nl.length)(hk:s.kind=2)(ac:Nat)(A:s.n=(ac:Int))(yes:Nat)(hy:s.yes=(yes:Int))(a5:yes<M.nl.length)(O:yt (M.nl.getD yes 0))(x:ActD)(hx:M.d.al[ac]?=some x)(D:OpD->List InsD)(K:Nat)(hK:∀o∈x.os,(D o).length<=K)(H:x.os.length<=100)
 (hD:∀(W:World),MkrAt M W->∀(o:OpD) (i:List InsD) (k:List Int) (w':World),o∈x.os->i.length+K<=90000->St W B M.pa i k w'->Calls Tryz.prog 117 #[M.v,o.v5] w' (Em W B M.pa w' (.tuple #[]) (i++D o) k)) (Z:cs.length+K*x.os.length<=89000):
 Calls Tryz.prog 45 #[M.v,.int .i64 (n:Int)] w (Em W0 B M.pa w (.tuple #[]) (cs++(doI D x.os++[xB (M.nl.getD yes 0)])) (jm ms (M.nl.getD n 0) cs.length)):=by
 obtain⟨r,h2,c3,q⟩:=h.box #[.int .i64 s.kind,.int .i64 s.n,.slice s.e.a s.e.n s.e.c,.int .i64 s.yes,.int .i64 s.no] 71;have a7:=hid c3;obtain⟨l,hW2⟩:∃l,l=w.alloc (.cells #[.int .i64 s.kind,.int .i64 s.n,.slice s.e.a s.e.n s.e.c,.int .i64 s.yes,.int .i64 s.no] 71):=⟨_,rfl⟩;obtain⟨fb,hfb⟩:∃b,b=w.heap.size:=⟨_,rfl⟩;rw[<-hW2]at h2;have b2:Below w.heap.size w l:=by rw[hW2];exact ze (zof _ _)
 have H0:Hid (∀w',Cov r w'->w'.cell? ⟨fb,0,none⟩=some (.int .i64 2)):=fun w' c=>c.2 _ _ _ (by rw[hfb,<-hk];exact q 0 _ rfl)
 have H1:Hid (∀w',Cov r w'->w'.cell? ⟨fb,1,none⟩=some (.int .i64 (ac:Int))):=fun w' c=>c.2 _ _ _ (by rw[hfb,<-A];exact q 1 _ rfl)
 have H3:Hid (∀w',Cov r w'->w'.cell? ⟨fb,3,none⟩=some (.int .i64 (yes:Int))):=fun w' c=>c.2 _ _ _ (by rw[hfb,<-hy];exact q 3 _ rfl)
 have HB:=hid (b2.mono h.lo);have m:=j.cov h.cov;have c5:=m.box.c5;have c2:=zog _ _ c5;have a6:n<M.d.nodes.n:=by rw[<-m.pl.ns.1];exact(zok.1 hs).1
 obtain⟨g,off,s',ea,L,hp⟩:=zV m.pl.ns a6;obtain rfl:s=s':=zoq (hs.symm.trans L);obtain⟨⟨x0,_⟩,⟨x1,_⟩,⟨x2,_⟩,⟨x3,_⟩,⟨x4,_⟩,_⟩:=hp;have c0:=zog _ _ x0;have c1:(n:Int)<(M.d.nodes.n:Int):=by omega
 rw[ea]at c5;have j:=j.cov c3.cov;have HM:=hid j;have Y:=hid (fun w' (Z:Cov r w')=>j.c7 Z)
 have b3:n<M.nd.n:=by rw[<-j.nd.1];exact hn
 have a9:yes<M.nd.n:=by rw[<-j.nd.1];exact a5
 obtain⟨y,E,P,_,C⟩:=j.nd.some (by omega)
 have t:Hid (∀w',Cov r w'->w'.cell? ⟨M.mb,16,none⟩=some (.slice (some ⟨y,E,none⟩) M.nd.n M.nd.c)):=fun w' c=>by rw[<-P];exact(j.cov c).box.c16
 have R:Hid (∀w',Cov r w'->w'.cell? ⟨y,E+n,none⟩=some (.int .i64 (M.nl.getD n 0))):=fun w' c=>c.2 _ _ _ (C n b3)
 have T:Hid (∀w',Cov r w'->w'.cell? ⟨y,E+yes,none⟩=some (.int .i64 (M.nl.getD yes 0))):=fun w' c=>c.2 _ _ _ (C yes a9)
 have b7:(n:Int)<(M.nd.n:Int):=by omega
 have b6:(yes:Int)<(M.nd.n:Int):=by omega
 have J:=hid (fun w' (b:Below l.heap.size l w')=>zbc (h2.step b) (M.nl.getD n 0))
 have c7:=Y.out l h2.cov;have c16:=t.out l h2.cov;have u:=R.out l h2.cov;have Q:=zog _ _ c7;have b5:=zog _ _ u;have B0:=hid (zof l.heap.size l);have a2:=hid h2.lo;have EW:=hid hW2;have EF:=hid hfb;have HC:=hid Z;have a4:=hid O;have N:=hid (fun i k w' (hS:St r B M.pa i k w') (b0:i.length+K*x.os.length<=90000)=>ndo j hS ac x hx D K hK H (fun o b1 w2 ho b4 a8=>hD r j o b1 k w2 ho b4 a8) b0)
 have a0:Hid ((doI D x.os).length<=K*x.os.length):=by
  have:=zjB hK x.os.length;rw[List.take_length]at this;exact this
 obtain⟨X,hX⟩:∃X,X=cs++(doI D x.os++[xB (M.nl.getD yes 0)]):=⟨_,rfl⟩;rw[<-hX];have HX:=hid hX;have EA:=hid ea;rw[hk]at x0 EW;rw[A]at x1 EW;rw[hy]at x3 EW;have b9:=hid (zon (K*x.os.length));clear hX h h2 c3 q hW2 hfb b2 m hs L ea j C Z hk A hy O P hD hK hx H;generalize M.nl.getD n 0=lab at*;generalize M.nl.getD yes 0=lby at*;generalize doI D x.os=DI at*;generalize K*x.os.length=KN at*;dsimp only[MkrD.v]at*;go_enter Tryz.func45,Tryz.ntmps45
 go_upto_region 1 with fail
 rw[<-EW.out,<-EF.out];go_region_held3 (fun w'=>w'.cell? ⟨M.mb,7,none⟩=some (.pointer (some ⟨M.pa,0,none⟩))/\w'.cell? ⟨M.mb,16,none⟩=some (.slice (some ⟨y,E,none⟩) M.nd.n M.nd.c)/\w'.cell? ⟨y,E+n,none⟩=some (.int .i64 lab)) (first|exact⟨U,S,ks⟩|go_keep) (first
  |(go_at_call 72;refine(J.out _ B0.out.drew).mono ?_;rintro e F ⟨rfl,f⟩;have U:=Y.out F f.1.cov;have S:=t.out F f.1.cov;have ks:=R.out F f.1.cov))
 have I:=hid ((HB.out.trans (B0.out.drew.mono a2.out)).trans f.2);have f0:=H0.out F f.1.cov;have f1:=H1.out F f.1.cov;have fl:=zog _ _ f0;have HT:=hid (N.out _ _ F f.1 (by have:=HC.out;omega))
 clear J f c7 c16 u U S ks b5 Q HB N;go_wp2_with fail
 refine HT.out.mono ?_;rintro e G ⟨rfl,f⟩;have a3:=hid (I.out.trans f.2);have f3:=H3.out G f.1.cov;have fl:=zog _ _ f3;have c7:=Y.out G f.1.cov;have Q:=zog _ _ c7;have c16:=t.out G f.1.cov;have cy:=T.out G f.1.cov;have b8:=zog _ _ cy;have HP:=hid (xy f.1 [xB lby] #[.int .i64 12,.int .i64 0,.int .i64 0,.int .i64 0,.int .i64 lby,.int .u64 0] rfl 1 rfl (xq ⟨(by decide:yt 12),wf0,wf0,wf0,a4.out,(by decide:kM 0)⟩) (by decide) (by have:=HC.out;have:=a0.out;simp only[zor];omega) 126)
 have HJ:=hid (zmp lby);have B0:=hid (zof G.heap.size G);clear HT f I f0 f1;go_wp2_with fail
 go_region_held3 (fun w'=>w'.cell? ⟨M.mb,7,none⟩=some (.pointer (some ⟨M.pa,0,none⟩))/\w'.cell? ⟨fb,3,none⟩=some (.int .i64 (yes:Int))/\w'.cell? ⟨M.mb,16,none⟩=some (.slice (some ⟨y,E,none⟩) M.nd.n M.nd.c)/\w'.cell? ⟨y,E+yes,none⟩=some (.int .i64 lby)) (first|exact⟨U,k3,a1,ky⟩|exact⟨za c7 (ze B0.out).drew,za f3 (ze B0.out).drew,za c16 (ze B0.out).drew,za cy (ze B0.out).drew⟩|exact⟨za c7 (ze (ze B0.out)).drew,za f3 (ze (ze B0.out)).drew,za c16 (ze (ze B0.out)).drew,za cy (ze (ze B0.out)).drew⟩|go_keep) (first
  |(go_at_call 78;refine(HJ.out _).mono ?_;rintro e w5 ⟨o1,rfl,rfl⟩)
  |(go_at_call 42;refine(HP.out _ _ (by simp) (ze B0.out)).mono ?_;rintro e V ⟨rfl,f⟩;have U:=Y.out V f.1.cov;have k3:=H3.out V f.1.cov;have a1:=t.out V f.1.cov;have ky:=T.out V f.1.cov))
 have f:=hid f;clear HP HJ;go_wp2;refine bodyPost_ret (v:=.tuple #[]) (by simp[results,Tryz.results45,go_sem]) rfl ⟨rfl,?_,a3.out.trans f.out.2⟩
 rw[HX.out,<-List.append_assoc];exact f.out.1.less a7.out
@[reducible] def qS(d:PlanD)(g m:Nat)(x:NodeD)(s:Nat):Value:=.agg #[.slice d.heads.a d.heads.n d.heads.c,.slice d.mta.a d.mta.n d.mta.c,.slice d.states.a d.states.n d.states.c,.slice d.acts.a d.acts.n d.acts.c,.slice d.tabs.a d.tabs.n d.tabs.c,.slice d.nodes.a d.nodes.n d.nodes.c,.slice d.out.a d.out.n d.out.c,.slice (some ⟨g,0,none⟩) m m,.int .i64 x.kind,.int .i64 x.n,.slice x.e.a x.e.n x.e.c,.int .i64 x.yes,.int .i64 x.no,.int .u64 (s:Int)]
@[reducible] def zer(d:PlanD)(g m:Nat)(x:NodeD)(s:Nat):Array Value:= #[.slice d.heads.a d.heads.n d.heads.c,.slice d.mta.a d.mta.n d.mta.c,.slice d.states.a d.states.n d.states.c,.slice d.acts.a d.acts.n d.acts.c,.slice d.tabs.a d.tabs.n d.tabs.c,.slice d.nodes.a d.nodes.n d.nodes.c,.slice d.out.a d.out.n d.out.c,.slice (some ⟨g,0,none⟩) m m,.int .i64 x.kind,.int .i64 x.n,.slice x.e.a x.e.n x.e.c,.int .i64 x.yes,.int .i64 x.no,.int .u64 (s:Int)]
def VisF(d:PlanD)(g m:Nat)(x:NodeD)(s:Nat)(b:Nat)(w:World):Prop:=∀i v,(zer d g m x s)[i]?=some v->w.cell? ⟨b,i,none⟩=some v
theorem zcn(d:PlanD)(g m:Nat)(x:NodeD)(s:Nat)(w:World):VisF d g m x s w.heap.size (w.alloc (.cells (zer d g m x s) 190)):=fun _ _ h=>(zod _ _ _ _ rfl).trans h
theorem VisF.step{d:PlanD}{g m:Nat}{x:NodeD}{s b:Nat}{w w':World}(h:VisF d g m x s b w)(hb:Below w.heap.size w w'):VisF d g m x s b w':=fun i v a=>za (h i v a) hb
theorem VisF.but{d:PlanD}{g m:Nat}{x:NodeD}{s b q:Nat}{w w':World}(h:VisF d g m x s b w)(hb:But q w w')(c:b≠q):VisF d g m x s b w':=fun i v a=>hb.cell c (h i v a)
theorem VisF.all{d:PlanD}{g m:Nat}{x:NodeD}{s b:Nat}{w:World}(h:VisF d g m x s b w):
 (w.cell? ⟨b,0,none⟩=some (.slice d.heads.a d.heads.n d.heads.c)/\w.cell? ⟨b,1,none⟩=some (.slice d.mta.a d.mta.n d.mta.c)/\w.cell? ⟨b,2,none⟩=some (.slice d.states.a d.states.n d.states.c)/\w.cell? ⟨b,3,none⟩=some (.slice d.acts.a d.acts.n d.acts.c)/\w.cell? ⟨b,4,none⟩=some (.slice d.tabs.a d.tabs.n d.tabs.c)/\w.cell? ⟨b,5,none⟩=some (.slice d.nodes.a d.nodes.n d.nodes.c)/\w.cell? ⟨b,6,none⟩=some (.slice d.out.a d.out.n d.out.c)/\w.cell? ⟨b,7,none⟩=some (.slice (some ⟨g,0,none⟩) m m))/\
 (w.cell? ⟨b,8,none⟩=some (.int .i64 x.kind)/\w.cell? ⟨b,9,none⟩=some (.int .i64 x.n)/\w.cell? ⟨b,10,none⟩=some (.slice x.e.a x.e.n x.e.c)/\w.cell? ⟨b,11,none⟩=some (.int .i64 x.yes)/\w.cell? ⟨b,12,none⟩=some (.int .i64 x.no)/\w.cell? ⟨b,13,none⟩=some (.int .u64 (s:Int))):=
 ⟨⟨h 0 _ rfl,h 1 _ rfl,h 2 _ rfl,h 3 _ rfl,h 4 _ rfl,h 5 _ rfl,h 6 _ rfl,h 7 _ rfl⟩,h 8 _ rfl,h 9 _ rfl,h 10 _ rfl,h 11 _ rfl,h 12 _ rfl,h 13 _ rfl⟩
def DoF(g:Nat)(ok:Bool)(A:List Nat)(w:World)(e:Ending)(w':World):Prop:=e=.returned (.bool ok)/\But g w w'/\(ok=true->AhU g A w')
theorem znj{w w':World}{b a c:Nat}{v0 v1 u0 u1:Value}(h:w.cell? ⟨b,3,none⟩=some v0/\w.cell? ⟨b,13,none⟩=some v1/\w.cell? ⟨a,c,none⟩=some u0/\w.cell? ⟨a,c+1,none⟩=some u1)(k:Below w.heap.size w w'):w'.cell? ⟨b,3,none⟩=some v0/\w'.cell? ⟨b,13,none⟩=some v1/\w'.cell? ⟨a,c,none⟩=some u0/\w'.cell? ⟨a,c+1,none⟩=some u1:=
 ⟨za h.1 k,za h.2.1 k,za h.2.2.1 k,za h.2.2.2 k⟩
theorem zle(d:PlanD)(x:NodeD)(s k y c:Nat)(a:ActD){g m:Nat}{A:List Nat}{w:World}(hl:d.lie w)(ha:AhU g A w)(hy:x.yes=(y:Int))(b9:y<m)(hA:A[y]?=some c)(d4:c<2^64)(hs:s<2^64)(hk:k<d.acts.n)(hx:d.al[k]?=some a)(ho:∀o∈a.p.os,zaZ o)(u:a.p.os.length<=5):
 Calls Tryz.prog 151 #[qS d g m x s,.int .i64 (k:Int)] w (DoF g (zH s a.p.os) (A.set y (c&&& yH s a.p.os)) w):=by
 obtain⟨ag,ao,a',ea,P,hp⟩:=zu hl.al hk;obtain rfl:a=a':=by rw[hx]at P;exact zoq P
 obtain⟨⟨k0,_⟩,⟨k1,_⟩,_,l⟩:=hp;have d7:a.ops.n<=5:=by have h1:=l.1;simp only[ActD.p,zoE]at u;omega
 obtain⟨H,hW⟩:∃H,H=w.alloc (.cells (zer d g m x s) 190):=⟨_,rfl⟩;obtain⟨b,hb⟩:∃b,b=w.heap.size:=⟨_,rfl⟩;have b1:Below w.heap.size w H:=by rw[hW];exact ze (zof _ _)
 have S:VisF d g m x s b H:=by rw[hW,hb];exact zcn d g m x s w
 obtain⟨⟨_,_,_,z3,_,_,_,_⟩,_,_,_,_,_,a7⟩:=S.all;rw[ea]at z3;have q0:=za k0 b1;have q1:=za k1 b1;have b8:(k:Int)<(d.acts.n:Int):=by omega
 have b4:(0:Int)<=(k:Int):=by omega
 have T:=hid S;have X:=hid b1;have HA:=hid ha;have HL:=hid hl;have U:=hid l;have HO:=hid ho;have HS:=hid hs;have d6:=hid u;have b5:=hid hA;have EW:=hid hW;have EB:=hid hb;have HY:=hid hy;have b0:b<H.heap.size:=zog _ _ a7;have b3:g<w.heap.size:=ha.lt;have N:Hid (w.heap.size<=b/\g<w.heap.size):=⟨by omega,ha.lt⟩
 have b6:Hid (d.acts.a=some ⟨ag,ao,none⟩):=ea;clear hl ha hs hx P ho u l hW hb b1 S k0 k1 ea hA hy hk b3;go_enter Tryz.func151,Tryz.ntmps151
 go_wp2_with fail
 rw[<-EW.out,<-EB.out];go_region_held3 (fun w'=>w'.cell? ⟨b,3,none⟩=some (.slice (some ⟨ag,ao,none⟩) d.acts.n d.acts.c)/\w'.cell? ⟨b,13,none⟩=some (.int .u64 (s:Int))/\w'.cell? ⟨ag,ao+k*2,none⟩=some (.slice a.w.a a.w.n a.w.c)/\w'.cell? ⟨ag,ao+k*2+1,none⟩=some (.slice a.ops.a a.ops.n a.ops.c))
  (first
   |(go_split_ands;with_reducible exact znj ⟨by assumption,by assumption,by assumption,by assumption⟩ (ze (zof _ _)))
   |go_keep)
  (fail)
 obtain⟨D,hW2⟩:∃D,D=(H.alloc (.cells #[.slice a.w.a a.w.n a.w.c,.slice a.ops.a a.ops.n a.ops.c,.int .u64 (s:Int)] 266)).drew:=⟨_,rfl⟩;obtain⟨q,hq⟩:∃q,q=H.heap.size:=⟨_,rfl⟩;rw[<-hW2,<-hq];have b2:Below H.heap.size H D:=by rw[hW2];exact(ze (zof _ _)).drew
 have d1:D.cell? ⟨q,1,none⟩=some (.slice a.ops.a a.ops.n a.ops.c):=by rw[hW2,hq];exact(zod _ _ _ _ rfl).trans rfl
 have d2:D.cell? ⟨q,2,none⟩=some (.int .u64 (s:Int)):=by rw[hW2,hq];exact(zod _ _ _ _ rfl).trans rfl
 have d3:D.frozen? ⟨q,2,none⟩=false:=by rw[hW2,hq];exact zoB _ _ _ _ rfl
 have d0:=hid (T.out.step b2);have a5:=hid (zh X.out b2);have c6:b≠q:=by omega
 have HQ:Hid (w.heap.size<=q):=by have:=N.out.1;show w.heap.size<=q;omega
 have I:Hid (D.cell? ⟨q,2,none⟩=some (.int .u64 (s:Int))/\D.frozen? ⟨q,2,none⟩=false):=⟨d2,d3⟩;have J:Hid (∀j,yH s (a.p.os.take j)<2^64):=fun j=>qQ HS.out fun o h e=>by
  have:=(HO.out o (List.mem_of_mem_take h)).head (by omega)
  omega
 obtain⟨Q,ee2⟩:∃Q,a.ops.a=Q:=⟨_,rfl⟩;have EE:=hid ee2;rw[ee2]at d1;rename_i hHeld
 clear hHeld hW2 hq b2 z3 a7 q0 q1 X T d2 d3 EW EB b0 b8 b4 ee2 b6;go_wp2;go_loopw [22,7] (fun qv _ wr=>∃j t:Nat,j<=a.ops.n/\qv=.int .i64 j/\Hid (t=yH s (a.p.os.take j))/\Hid (zH s a.p.os=zH t (a.p.os.drop j))/\Hid (wr.cell? ⟨q,2,none⟩=some (.int .u64 (t:Int))/\wr.frozen? ⟨q,2,none⟩=false)/\Hid (But q D wr)) (fun qv _ _=>a.ops.n-(intOf qv).toNat)
 case atStart=>exact⟨0,s,zon _,rfl,rfl,rfl,I,But.refl _ _⟩
 case round=>
  obtain⟨j,t,hj,rfl,HT,HG,HC,C⟩:=hrel;clear I;have i:Hid (Below w.heap.size w wr):=a5.out.trans (C.out.low.mono HQ.out);by_cases c5:j<a.ops.n
  ·obtain⟨og,oo,o,V,Y,c9⟩:=zu (U.out.step OpD.keeps i.out) c5;obtain rfl:Q=some ⟨og,oo,none⟩:=by rw[<-EE.out];exact V
   obtain⟨⟨c0,_⟩,⟨c1,_⟩,⟨c2,_⟩,⟨c3,_⟩,⟨c4,_⟩,a4⟩:=c9;have c8:(j:Int)<(a.ops.n:Int):=by omega
   have d5:(0:Int)<=(j:Int):=by omega
   have G:a.p.os[j]?=some o.p:=by show(a.os.map OpD.p)[j]?=_;rw[zoy,Y];rfl
   have L:q<wr.heap.size:=zog _ _ HC.out.1;have a3:Hid (∀R,Calls Tryz.prog 188 #[.pointer (some ⟨q,0,none⟩),.agg #[.int .i64 o.kind,.int .i64 o.r.h,.int .i64 o.r.f,.int .i64 o.head,.slice o.e.a o.e.n o.e.c]] (wr.alloc R) (jT q t o.p (wr.alloc R))):=fun R=>by
    have bo:Below wr.heap.size wr (wr.alloc R):=ze (zof _ _);exact zhu q t o _ (za HC.out.1 bo) ((bo.frozen (p:=⟨q,2,none⟩) L).trans HC.out.2) (by rw[HT.out];exact J.out j) (HO.out _ (zol G)) (a4.step PushD.keeps bo)
   have a6:Hid (yN t o.p=yH s (a.p.os.take (j+1))):=by show _=_;rw[zcm G,<-HT.out]
   have E:Hid (zH s a.p.os=(yr t o.p&&zH (yN t o.p) (a.p.os.drop (j+1)))):=by show _=_;rw[HG.out,zcl G]
   have Z:Hid (∀R,But q D (wr.alloc R)):=fun R=>C.out.trans (But.of (ze (zof _ _)) (Nat.le_of_lt L))
   clear Y G a4 V HG HT HC C i;go_wp2_with fail
   refine(a3.out _).mono ?_;rintro e W ⟨rfl,a0,a8,a1⟩;have K:=hid ((Z.out _).trans a0);have a9:Hid (W.cell? ⟨q,2,none⟩=some (.int .u64 (yN t o.p:Nat))/\W.frozen? ⟨q,2,none⟩=false):=⟨a8,a1⟩;clear a3 Z a0 a8 a1 c0 c1 c2 c3 c4 L;generalize yN t o.p=t' at*;generalize yr t o.p=B at*;cases B with
   |true=>
    have F:Hid (zH s a.p.os=zH t' (a.p.os.drop (j+1))):=by show _=_;rw[E.out,Bool.true_and]
    clear E;go_wp2;go_roundw
    case rel=>exact⟨j+1,t',by omega,by go_num,a6,F,a9,K⟩
    case measure=>simp[intOf];omega
   |false=>
    have HE:Hid (DoF g (zH s a.p.os) (A.set y (c&&& yH s a.p.os)) w (.returned (.bool false)) W):=by
     have e:zH s a.p.os=false:=by rw[E.out,Bool.false_and]
     refine⟨by rw[e],But.of (a5.out.trans (K.out.low.mono HQ.out)) (Nat.le_of_lt N.out.2),fun h=>?_⟩
     rw[e]at h;cases h
    clear E a6 a9 K;go_wp2;go_ret;exact HE.out
  ·have c8:¬(j:Int)<(a.ops.n:Int):=by omega
   have ej:a.p.os.length=a.ops.n:=by simp only[ActD.p,zoE];exact U.out.1
   have M:Hid (t=yH s a.p.os):=by show _=_;rw[HT.out,List.take_of_length_le (by omega)]
   have F:Hid (zH s a.p.os=true):=by
    show _=_;rw[HG.out,List.drop_of_length_le (by omega)]
    rfl
   obtain⟨⟨y0,y1,y2,y3,y4,y5,y6,y7⟩,_,_,_,b7,_,_⟩:=(d0.out.but C.out c6).all;have z2:=HC.out.1;have O:Hid (Calls Tryz.prog 68 #[zb5 d g m,.int .i64 x.yes,.int .u64 (t:Int)] wr (zbT g (A.set y (c&&& t)) wr)):=by
    have:=zbw d y t c (HA.out.step i.out) b9 b5.out (by rw[M.out];have:=J.out a.p.os.length;rwa[List.take_length]at this) d4
    rw[<-HY.out]at this;exact this
   have a2:Hid (∀w',zbT g (A.set y (c&&& t)) wr (.returned (.tuple #[])) w'->DoF g (zH s a.p.os) (A.set y (c&&& yH s a.p.os)) w (.returned (.bool true)) w'):=fun w' h=>by
    refine⟨by rw[F.out],(But.of i.out (Nat.le_of_lt N.out.2)).trans h.2.2,fun _=>?_⟩
    rw[<-M.out];exact h.2.1
   clear HT HG HC C i M F J;unfold zb5 at O;go_wp2_with fail
   refine O.out.mono ?_;rintro e W ⟨rfl,h1,h2⟩;have HE:=hid (a2.out W ⟨rfl,h1,h2⟩);clear O a2 h1 h2 y0 y1 y2 y3 y4 y5 y6 y7 b7 z2;go_wp2;go_ret;exact HE.out
theorem zaX{p:PPlan}{s:Nat}{l:List Int}{j:Nat}{k:Int}(h:l[j]?=some k):yd p s (l.take (j+1))=yd p s (l.take j)&&& yH s (zG p k):=by
 unfold yd;rw[zoI,h];simp
theorem zi8{d:PlanD}{w:World}(c:d.lie w){k:Int}(f:0<=k/\k<(d.p.al.length:Int)):∃(n:Nat) (a:ActD),k=(n:Int)/\n<d.acts.n/\d.al[n]?=some a/\zG d.p k=a.p.os:=by
 have e:d.p.al.length=d.acts.n:=by simp[PlanD.p,c.al.1]
 have b:k.toNat<d.al.length:=by rw[c.al.1];omega
 refine⟨k.toNat,d.al[k.toNat],by omega,by omega,zoh b,?_⟩
 unfold zG PlanD.p;simp only[zoi,zoy,zoh b,Option.map_some,zoC]
theorem zi9{d:PlanD}(a:(zD d.p).1=0){k:Int}(c:0<=k/\k<(d.p.al.length:Int)):(∀o∈zG d.p k,zaZ o)/\(zG d.p k).length<=5:=
 ⟨fun o b=>zjh a (zgM a c o b),(zjf a (i:=k.toNat) (by omega)).few.2⟩
theorem zgK(d:PlanD)(x:NodeD)(s y c:Nat)(k:Int){g m:Nat}{A:List Nat}{w:World}(j:d.lie w)(r:(zD d.p).1=0)(ha:AhU g A w)(o:x.yes=(y:Int))(h:y<m)(t:A[y]?=some c)(f:c<2^64)(hs:s<2^64)(i:0<=k/\k<(d.p.al.length:Int)):
 Calls Tryz.prog 151 #[qS d g m x s,.int .i64 k] w (DoF g (zH s (zG d.p k)) (A.set y (c&&& yH s (zG d.p k))) w):=by
 obtain⟨n,a,rfl,q,l,e⟩:=zi8 j i;have b:=zi9 r i;rw[e]at b ⊢;exact zle d x s n y c a j ha o h t f hs q l b.1 b.2
theorem zep{A:List Nat}{y c:Nat}(h:A[y]?=some c):A.set y c=A:=by
 obtain⟨a,e⟩:=zok.1 h;rw[<-e,List.set_getElem_self]
@[reducible] def zmG(t:TabD):Value:=.agg #[.int .i64 t.kind,.slice t.keys.a t.keys.n t.keys.c,.slice t.acts.a t.acts.n t.acts.c,.int .i64 t.cap,.int .i64 t.dflt,.slice t.args.a t.args.n t.args.c]
theorem zja(d:PlanD)(x:NodeD)(t:TabD)(s y c:Nat){g m:Nat}{A:List Nat}{w:World}(hc:(zD d.p).1=0)(ha:AhU g A w)(a1:∀w',But g w w'->d.lie w')(hy:x.yes=(y:Int))(a2:y<m)(hA:A[y]?=some c)(a5:c<2^64)(hs:s<2^64)(S:zgL d.p t.p)(hk:QRow 2 RefD.lie w t.keys t.ks)(M:Has .i64 w t.acts.a t.acts.n t.al)(J:∀w',But g w w'->Has .i64 w' t.acts.a t.acts.n t.al):
 Calls Tryz.prog 150 #[qS d g m x s,zmG t] w (DoF g (yD s t.ks&&t.al.all (fun k=>zH s (zG d.p k))) (A.set y (c&&& yd d.p s t.al)) w):=by
 obtain⟨K,hW⟩:∃K,K=w.alloc (.cells (zer d g m x s) 190):=⟨_,rfl⟩;obtain⟨b,hb⟩:∃b,b=w.heap.size:=⟨_,rfl⟩;obtain⟨G,hW2⟩:∃G,G=K.alloc (.cells #[.int .i64 t.kind,.slice t.keys.a t.keys.n t.keys.c,.slice t.acts.a t.acts.n t.acts.c,.int .i64 t.cap,.int .i64 t.dflt,.slice t.args.a t.args.n t.args.c] 69):=⟨_,rfl⟩;obtain⟨R,hb'⟩:∃R,R=w.heap.size+1:=⟨_,rfl⟩;have s1:K.heap.size=R:=by rw[hW,hb'];simp
 have b1:Below w.heap.size w K:=by rw[hW];exact ze (zof _ _)
 have b2:Below K.heap.size K G:=by rw[hW2];exact ze (zof _ _)
 have a6:VisF d g m x s b K:=by rw[hW,hb];exact zcn d g m x s w
 have N:=a6.step b2;have c1:G.cell? ⟨R,1,none⟩=some (.slice t.keys.a t.keys.n t.keys.c):=by rw[hW2,<-s1];exact(zod _ _ _ _ rfl).trans rfl
 have c2:G.cell? ⟨R,2,none⟩=some (.slice t.acts.a t.acts.n t.acts.c):=by rw[hW2,<-s1];exact(zod _ _ _ _ rfl).trans rfl
 obtain⟨_,_,_,_,_,_,a7⟩:=N.all;have bb:=zh b1 b2;have W:=ha.lt;have c3:b≠g:=by omega
 have c9:R≠g:=by omega
 have h4:t.acts.n<=4:=by have:=S.afew;have h2:=M.1;simp only[TabD.p]at this;omega
 have HK:Hid (Calls Tryz.prog 187 #[.int .u64 (s:Int),.slice t.keys.a t.keys.n t.keys.c] G fun q w'=>q=.returned (.bool (yD s t.ks))/\Below G.heap.size G w'):=zhH s t.keys t.ks G hs (hk.step RefD.keeps bb) (fun r hr=>ja hc (S.keys r hr)) (by have:=S.few;have h2:=hk.1;simp only[TabD.p]at this;omega)
 have b0:Hid (∀k∈t.al,0<=k/\k<(d.p.al.length:Int)):=fun k hk=>S.acts k hk
 have a4:Hid (∀(w':World) (k:Int) (c':Nat) (A':List Nat),But g w w'->AhU g A' w'->A'[y]?=some c'->c'<2^64->k∈t.al->Calls Tryz.prog 151 #[qS d g m x s,.int .i64 k] w' (DoF g (zH s (zG d.p k)) (A'.set y (c'&&& yH s (zG d.p k))) w')):=fun w' k c' A' h1 h2 h3 h4 h5=>zgK d x s y c' k (a1 w' h1) hc h2 hy a2 h3 h4 hs (S.acts k h5)
 have HA:=hid ha;have X:=hid hA;have a0:=hid a5;have L:=hid bb;have P:=hid N;have T:=hid W;have b4:=hid J;have o:Hid (∀w',But g w w'->(yD s t.ks&&t.al.all (fun k=>zH s (zG d.p k)))=false->DoF g (yD s t.ks&&t.al.all (fun k=>zH s (zG d.p k))) (A.set y (c&&& yd d.p s t.al)) w (.returned (.bool false)) w'):=fun w' h e=>by
  refine⟨by rw[e],h,fun h=>?_⟩
  rw[e]at h;cases h
 have F:Hid (∀w',But g w w'->(yD s t.ks&&t.al.all (fun k=>zH s (zG d.p k)))=true->AhU g (A.set y (c&&& yd d.p s t.al)) w'->DoF g (yD s t.ks&&t.al.all (fun k=>zH s (zG d.p k))) (A.set y (c&&& yd d.p s t.al)) w (.returned (.bool true)) w'):=fun w' h e h2=>⟨by rw[e],h,fun _=>h2⟩
 have EW:=hid hW;have I:=hid hW2;have EB:=hid hb;have a9:=hid hb';have d3:=M.1;clear hc ha a1 hy a2 hA a5 hs S hk M J hW hb hW2 hb' s1 b1 b2 a6 N bb W;generalize yD s t.ks=KB at*;cases KB with
 |false=>
  clear a4 F b0 P;go_enter Tryz.func150,Tryz.ntmps150
  go_wp2_with fail
  rw[<-EW.out,<-I.out];refine HK.out.mono ?_;rintro e Q ⟨rfl,f⟩;have V:=hid (o.out Q (But.of (zh L.out f) (Nat.le_of_lt T.out)) rfl);clear HK o f EW I c1 c2 a7;go_wp2;go_ret;exact V.out
 |true=>
  obtain⟨ea,ee⟩:∃ea,t.acts.a=ea:=⟨_,rfl⟩;have EE:=hid ee;rw[ee]at c2;clear ee;go_enter Tryz.func150,Tryz.ntmps150
  go_wp2_with fail
  rw[<-EW.out,<-I.out];refine HK.out.mono ?_;rintro e Q ⟨rfl,f⟩;have d2:=za c2 f;have Z:=hid (P.out.step f);have B3:=hid (zh L.out f);have c0:Hid (AhU g (A.set y (c&&& yd d.p s (t.al.take 0))) Q):=by
   show AhU g _ Q;have:yd d.p s (t.al.take 0)=zF:=rfl;rw[this,zy a0.out,zep X.out];exact HA.out.step B3.out
  have d1:Hid (b<Q.heap.size):=zog _ _ (Z.out 0 _ rfl);clear HK f c1 c2 a7 P EW I HA L;rw[<-a9.out,<-EB.out];go_wp2;go_loopw [16,6] (fun qv _ wr=>∃j:Nat,j<=t.acts.n/\qv=.int .i64 j/\Hid (t.al.all (fun k=>zH s (zG d.p k))=(t.al.drop j).all (fun k=>zH s (zG d.p k)))/\Hid (AhU g (A.set y (c&&& yd d.p s (t.al.take j))) wr)/\Hid (But g Q wr)) (fun qv _ _=>t.acts.n-(intOf qv).toNat)
  case atStart=>exact⟨0,zon _,rfl,rfl,c0,But.refl _ _⟩
  case round=>
   obtain⟨j,hj,rfl,HN,C,u⟩:=hrel;have l:Hid (But g w wr):=(But.of B3.out (Nat.le_of_lt T.out)).trans u.out;by_cases b8:j<t.acts.n
   ·have c4:(j:Int)<(t.acts.n:Int):=by omega
    have d0:(0:Int)<=(j:Int):=by omega
    obtain⟨kg,ko,U,_,i⟩:=(b4.out wr l.out).some (by omega)
    obtain rfl:ea=some ⟨kg,ko,none⟩:=by rw[<-EE.out];exact U
    have ck:=i j b8;have D:t.al[j]?=some (t.al.getD j 0):=by
     rw[zoi,zoh (by omega)];rfl
    have b5:Hid (y<A.length):=(zok.1 X.out).1;generalize t.al.getD j 0=k at*;have E:=hid (a4.out wr k _ _ l.out C.out (List.getElem?_set_self b5.out) (jV a0.out) (zol D));have H:Hid (t.al.all (fun k=>zH s (zG d.p k))=(zH s (zG d.p k)&&(t.al.drop (j+1)).all (fun k=>zH s (zG d.p k)))):=by show _=_;rw[HN.out];exact jY D
    have a8:Hid ((A.set y (c&&& yd d.p s (t.al.take j))).set y ((c&&& yd d.p s (t.al.take j))&&& yH s (zG d.p k))=A.set y (c&&& yd d.p s (t.al.take (j+1)))):=by
     show _=_;rw[List.set_set,zaX D,Nat.and_assoc]
    rw[a8.out]at E;obtain⟨⟨y0,y1,y2,y3,y4,y5,y6,y7⟩,y8,y9,b9,b6,c8,b7⟩:=(Z.out.but u.out c3).all;clear i D HN U C a8;generalize zH s (zG d.p k)=B at*;unfold qS at E;go_wp2_with fail
    refine E.out.mono ?_;rintro e w2 ⟨rfl,Y,O⟩;have c5:=hid (u.out.trans Y);have a3:=hid (l.out.trans Y);clear E y0 y1 y2 y3 y4 y5 y6 y7 y8 y9 b9 b6 c8 b7 ck l u;cases B with
    |true=>
     have c6:Hid (t.al.all (fun k=>zH s (zG d.p k))=(t.al.drop (j+1)).all (fun k=>zH s (zG d.p k))):=by show _=_;rw[H.out,Bool.true_and]
     have b3:=hid (O rfl);clear H O;go_wp2;go_roundw
     case rel=>exact⟨j+1,by omega,by go_num,c6,b3,c5⟩
     case measure=>simp[intOf];omega
    |false=>
     have V:=hid (o.out w2 a3.out (by rw[H.out];rfl))
     clear H O o F;go_wp2;go_ret;exact V.out
   ·have c4:¬(j:Int)<(t.acts.n:Int):=by omega
    have V:Hid (DoF g (true&&t.al.all (fun k=>zH s (zG d.p k))) (A.set y (c&&& yd d.p s t.al)) w (.returned (.bool true)) wr):=by
     refine F.out wr l.out ?_ ?_
     ·rw[HN.out,List.drop_of_length_le (by omega)];rfl
     ·have:=C.out;rwa[List.take_of_length_le (by omega)]at this
    clear HN C u l o F;go_wp2;go_ret;exact V.out
end Go.Proofs.YtdajaaondlekfaaGreat
