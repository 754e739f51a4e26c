import Derived.Test.YtbmcgbmegcpgnaaGreatG15
import Derived.Test.YtbmcgbmegcpgnaaGreatG7
import Derived.Test.YtbmcgbmegcpgnaaGreatG14
import Derived.Test.YtbmcgbmegcpgnaaGreatVZSumB
import Derived.Laws.BytesArg
import Derived.Test.YtbmcgbmegcpgnaaGreatG9
import Derived.Test.YtbmcgbmegcpgnaaGreatG5
set_option maxHeartbeats 8000000
set_option maxRecDepth 20000
set_option linter.unusedSimpArgs false
namespace Go.Proofs.YtbmcgbmegcpgnaaGreat
open Go.RowKit
theorem Sim.cntL{α β :Type}{zs:List Int}{s s1 s2:Except (Int × Int) Nat}{R:Nat->Except (Int × Int) (α × Nat)}{f:Nat->Except (Int × Int) (β × Nat)}{m:Nat}{K:List β->Nat->Except (Int × Int) (α × Nat)}(h:Sim s R s1 fun t=>y7 (yz zs f t) K)(k:Sim s1 (zpl zs) s2 fun t=>.ok (m,t)):Sim s R s2 fun t=>y7 (xh f m t) K:=by
 have b:Sim s R s1 (fun t=>y7 (zpl zs t) fun n a=>y7 (xh f n a) K):=h.eq fun t=>by unfold yz y7;cases zpl zs t<;>rfl
 exact Sim.next b k
theorem Sim.loop0{β :Type}(s:Except (Int × Int) Nat)(f:Nat->Except (Int × Int) (β × Nat))(m:Nat):Sim s (fun t=>xh f m t) s fun t=>y7 (xk [] (xh f (m-0) t)) fun l u=>.ok (l,u):=
 (Sim.refl s _).eq fun t=>by rw[zq7,zrU];rfl
theorem zu1{p:Nat}{a:Option Addr}{c:Nat}{zs:List Int}{s:Except (Int × Int) Nat}{w:World}(h:Tk p a c zs s w):
 Calls Tryz.prog 79 #[.pointer (some ⟨p,0,none⟩)] w (TD p a c zs s (zpz zs) (zqq kTab TabD.p zqL w.heap.size) w):=by
 obtain⟨W0,eW0⟩:∃W,W=w.alloc (.cells #[.int .i64 0,.slice none 0 0,.slice none 0 0,.int .i64 0,.int .i64 0,.slice none 0 0] 63):=⟨_,rfl⟩;obtain⟨rb,erb⟩:∃b,b=w.heap.size:=⟨_,rfl⟩;have R0:Hid (TSt p a c zs 63 rb w s [.int .i64 0,.slice none 0 0,.slice none 0 0,.int .i64 0,.int .i64 0,.slice none 0 0] W0):=by rw[eW0,erb];exact TSt.start h (Rn.refl _ _) _ _
 have HP:=hid h.lt;have EW:=hid eW0;have ER:=hid erb;have A:=hid (zpk R0.out.tk);clear h eW0 erb;go_enter Tryz.func79,Tryz.ntmps79
 go_wp2_with fail
 rw[<-EW.out,<-ER.out];clear EW ER;refine A.out.mono ?_;rintro e w0 ⟨_,F,s0,rfl,⟨rfl,wf⟩,k,y,hs⟩;have M0:=hid (Sim.next (Sim.refl s (zpz zs)) hs);have R1:=hid (R0.out.read k y);obtain⟨V0,eV⟩:∃W,W=w0.alloc (.cells #[.int .i64 F,.slice none 0 0,.slice none 0 0,.int .i64 0,.int .i64 0,.slice none 0 0] 63):=⟨_,rfl⟩;obtain⟨bx,ebx⟩:∃b,b=w0.heap.size:=⟨_,rfl⟩;have S0:Hid (TS2 p a c zs 63 rb bx w s0 [.int .i64 0,.slice none 0 0,.slice none 0 0,.int .i64 0,.int .i64 0,.slice none 0 0] [.int .i64 F,.slice none 0 0,.slice none 0 0,.int .i64 0,.int .i64 0,.slice none 0 0] V0):=by rw[eV,ebx];exact TS2.start R1.out _
 have d8:=hid wf;obtain⟨B0,eB0⟩:∃B,B=V0.heap.size:=⟨_,rfl⟩;have f:Hid (p<B0/\rb<B0/\bx<B0):=⟨by rw[eB0];exact S0.out.st.tk.lt,by rw[eB0];exact S0.out.st.box.lt,by rw[eB0];exact S0.out.box.lt⟩
 have a5:Hid (w.heap.size<=B0):=by show _<=B0;rw[eB0];exact S0.out.st.rn.size
 have r:Hid (B0<=V0.heap.size):=by show B0<=_;rw[eB0];exact zos _
 have EV:=hid eV;have EB:=hid ebx;clear A R0 R1 k y hs wf eV ebx eB0;have A:=hid (zp1 S0.out.st.tk);go_wp2_with fail
 rw[<-EV.out,<-EB.out];clear EV EB;refine A.out.mono ?_;rintro e w1 ⟨_,U,s1,rfl,⟨rfl,hm⟩,k,y,hs⟩;have M1:=hid (Sim.cntL M0.out hs);have e1:U<=100000:=zoz hm y.few;have T1:=hid (S0.out.read k y);have r:Hid (B0<=w1.heap.size):=zoz r.out k.size;clear A k y hs hm;obtain⟨WL1,eWL⟩:∃W,W=w1:=⟨_,rfl⟩;obtain⟨C,eC⟩:∃C,C=w1.heap.size:=⟨_,rfl⟩;have I:Hid (p<C/\rb<C/\bx<C/\B0<=C/\w1.heap.size<=C/\C<=w1.heap.size):=by have h1:=f.out;have h2:=r.out;show _/\_;omega
 have a2:Hid (RowS kRef 48 C ([].map zqu) ⟨none,0,0⟩ w1):=RowS.nil _ _ I.out.2.2.2.2.2;have a0:=hid (Sim.loop0 s1 (jp zs) U);have a4:Hid (Hi B0 WL1 w1):=by rw[eWL];exact Hi.refl _ _
 clear eC;rw[<-eWL]at I r;clear eWL;go_wp2;go_loopw [5] (fun q wr=>∃(i:Nat) (X:List (Int × Int)) (sl:QSl) (s2:Except (Int × Int) Nat),q=.int .i64 i/\Hid (i<=U/\X.length=i)/\Hid (RowS kRef 48 C (X.map zqu) sl wr)/\Hid (TS2 p a c zs 63 rb bx w s2 [.int .i64 0,.slice none 0 0,.slice none 0 0,.int .i64 0,.int .i64 0,.slice none 0 0] [.int .i64 F,.slice sl.a sl.n sl.c,.slice none 0 0,.int .i64 0,.int .i64 0,.slice none 0 0] wr)/\Hid (Hi B0 WL1 wr)/\Hid (Sim s1 (fun t=>xh (jp zs) U t) s2 fun t=>y7 (xk X (xh (jp zs) (U-i) t)) fun l u=>.ok (l,u))) (fun q _=>U-(intOf q).toNat)
 case atStart=>exact⟨0,[],⟨none,0,0⟩,s1,rfl,⟨zon _,rfl⟩,a2,T1,a4,a0⟩
 case round=>
  clear a2 a4 a0 T1;obtain⟨i,X,sl,s2,rfl,HI,L,R,T,HM⟩:=hrel;have HO:=hid (tok R.out.st.tk);go_upto_region 4 with fail
  go_cut [18]from 12 to 18 (fun v wc=>v=.bool (decide (i<U)&&okE s2)/\wr=wc)
  case first=>
   by_cases D:i<U
   ·have c3:(i:Int)<(U:Int):=by omega
    go_wp2_with fail
    refine HO.out.mono ?_;rintro e w2 ⟨rfl,rfl⟩;go_wp2_with fail
    go_meet
    exact⟨by simp[D],rfl⟩
   ·have c3:¬(i:Int)<(U:Int):=by omega
    go_wp2_with fail
    go_meet
    exact⟨by simp[D],rfl⟩
  case rest=>
   obtain⟨rfl,rfl⟩:=hcut;clear HO;cases H:(decide (i<U)&&okE s2)
   ·have M:=zpy H;have c7:=hid (Sim.next M1.out (HM.out.done M));have r:Hid (B0<=wr.heap.size):=zoz r.out T.out.size;obtain⟨q1r,eq1r⟩:∃q,q=sl:=⟨_,rfl⟩;rw[<-eq1r]at R L;obtain⟨L1r,eL1r⟩:∃l,l=X.map zqu:=⟨_,rfl⟩;obtain⟨x1r,ex1r⟩:∃l,l=X:=⟨_,rfl⟩;rw[<-eL1r]at L;have m:=hid (QRow.cov L.out.fin.1 (Kd.covs kRef) (qq wr I.out.2.2.2.1));have c5:=hid L.out.fin.2;have d2:Hid (L1r=x1r.map zqu):=by show _=_;rw[ex1r];exact eL1r
    have a9:Hid _:=c7;rw[<-ex1r]at a9;have a6:=R;clear L HM HI T R M H I c7 eq1r eL1r ex1r;obtain⟨sx,esx⟩:∃x,x=s2:=⟨_,rfl⟩;rw[<-esx]at a6 a9;clear esx;have A:=hid (zrV a6.out.st.tk);go_wp2_with fail
    refine A.out.mono ?_;rintro e w2 ⟨_,x2,s2,rfl,⟨q2,L2,rfl,d5,d1,d0,c8⟩,k,y,hs⟩;have M2:=hid (Sim.next a9.out hs);have T2:=hid (a6.out.read k y);have m:=hid (m.out.step (Kd.keeps kRef) (Hi.low (Hi.rn k f.out.1) (zos _)));have N:=hid (QRow.cov (d5) (Kd.covs kInt) (qq w2 r.out));have N2:=hid (And.intro d1 d0);have P2:=hid c8;have r:Hid (B0<=w2.heap.size):=zoz r.out k.size;clear d5 d1 d0 c8;clear A k y hs a6;have b2:=T2.out.box.cell (i:=2) rfl;have z2:=T2.out.box.fz 2;have l0:=T2.out.box.lt;obtain⟨V2,eV⟩:∃W,W=(w2.setCell ⟨bx,2,none⟩ (.slice q2.a q2.n q2.c)):=⟨_,rfl⟩;have S2:Hid (TS2 p a c zs 63 rb bx w s2 [.int .i64 0,.slice none 0 0,.slice none 0 0,.int .i64 0,.int .i64 0,.slice none 0 0] [.int .i64 F,.slice q1r.a q1r.n q1r.c,.slice q2.a q2.n q2.c,.int .i64 0,.int .i64 0,.slice none 0 0] V2):=by rw[eV];exact(T2.out.put 2 (.slice q2.a q2.n q2.c))
    have EV:=hid eV;have m:=hid (m.out.step (Kd.keeps kRef) (Hi.low (by rw[eV];exact((Hi.refl B0 w2).put f.out.2.2 2 (.slice q2.a q2.n q2.c)):Hi B0 w2 V2) (zos _)))
    have N:=hid (N.out.step (Kd.keeps kInt) (Hi.low (by rw[eV];exact((Hi.refl B0 w2).put f.out.2.2 2 (.slice q2.a q2.n q2.c)):Hi B0 w2 V2) (zos _)))
    have r:Hid (B0<=V2.heap.size):=by show B0<=_;rw[eV];simpa[World.setCell]using r.out
    clear eV T2;have A:=hid (zpk S2.out.st.tk);go_wp2_with fail
    rw[<-EV.out];clear EV b2 z2 l0;refine A.out.mono ?_;rintro e w3 ⟨_,G,s3,rfl,⟨rfl,wf⟩,k,y,hs⟩;have M3:=hid (Sim.next M2.out hs);have T3:=hid (S2.out.read k y);have m:=hid (m.out.step (Kd.keeps kRef) (Hi.low (Hi.rn k f.out.1) (zos _)));have N:=hid (N.out.step (Kd.keeps kInt) (Hi.low (Hi.rn k f.out.1) (zos _)));have r:Hid (B0<=w3.heap.size):=zoz r.out k.size;have d9:=hid wf;clear wf;clear A k y hs S2;have b3:=T3.out.box.cell (i:=3) rfl;have z3:=T3.out.box.fz 3;have l0:=T3.out.box.lt;obtain⟨V3,eV⟩:∃W,W=(w3.setCell ⟨bx,3,none⟩ (.int .i64 G)):=⟨_,rfl⟩;have S3:Hid (TS2 p a c zs 63 rb bx w s3 [.int .i64 0,.slice none 0 0,.slice none 0 0,.int .i64 0,.int .i64 0,.slice none 0 0] [.int .i64 F,.slice q1r.a q1r.n q1r.c,.slice q2.a q2.n q2.c,.int .i64 G,.int .i64 0,.slice none 0 0] V3):=by rw[eV];exact(T3.out.put 3 (.int .i64 G))
    have EV:=hid eV;have m:=hid (m.out.step (Kd.keeps kRef) (Hi.low (by rw[eV];exact((Hi.refl B0 w3).put f.out.2.2 3 (.int .i64 G)):Hi B0 w3 V3) (zos _)))
    have N:=hid (N.out.step (Kd.keeps kInt) (Hi.low (by rw[eV];exact((Hi.refl B0 w3).put f.out.2.2 3 (.int .i64 G)):Hi B0 w3 V3) (zos _)))
    have r:Hid (B0<=V3.heap.size):=by show B0<=_;rw[eV];simpa[World.setCell]using r.out
    clear eV T3;have A:=hid (zpk S3.out.st.tk);go_wp2_with fail
    rw[<-EV.out];clear EV b3 z3 l0;refine A.out.mono ?_;rintro e w4 ⟨_,J,s4,rfl,⟨rfl,wf⟩,k,y,hs⟩;have M4:=hid (Sim.next M3.out hs);have T4:=hid (S3.out.read k y);have m:=hid (m.out.step (Kd.keeps kRef) (Hi.low (Hi.rn k f.out.1) (zos _)));have N:=hid (N.out.step (Kd.keeps kInt) (Hi.low (Hi.rn k f.out.1) (zos _)));have r:Hid (B0<=w4.heap.size):=zoz r.out k.size;have d7:=hid wf;clear wf;clear A k y hs S3;have b4:=T4.out.box.cell (i:=4) rfl;have z4:=T4.out.box.fz 4;have l0:=T4.out.box.lt;obtain⟨V4,eV⟩:∃W,W=(w4.setCell ⟨bx,4,none⟩ (.int .i64 J)):=⟨_,rfl⟩;have S4:Hid (TS2 p a c zs 63 rb bx w s4 [.int .i64 0,.slice none 0 0,.slice none 0 0,.int .i64 0,.int .i64 0,.slice none 0 0] [.int .i64 F,.slice q1r.a q1r.n q1r.c,.slice q2.a q2.n q2.c,.int .i64 G,.int .i64 J,.slice none 0 0] V4):=by rw[eV];exact(T4.out.put 4 (.int .i64 J))
    have EV:=hid eV;have m:=hid (m.out.step (Kd.keeps kRef) (Hi.low (by rw[eV];exact((Hi.refl B0 w4).put f.out.2.2 4 (.int .i64 J)):Hi B0 w4 V4) (zos _)))
    have N:=hid (N.out.step (Kd.keeps kInt) (Hi.low (by rw[eV];exact((Hi.refl B0 w4).put f.out.2.2 4 (.int .i64 J)):Hi B0 w4 V4) (zos _)))
    have r:Hid (B0<=V4.heap.size):=by show B0<=_;rw[eV];simpa[World.setCell]using r.out
    clear eV T4;have A:=hid (zp1 S4.out.st.tk);go_wp2_with fail
    rw[<-EV.out];clear EV b4 z4 l0;refine A.out.mono ?_;rintro e Q ⟨_,V,s5,rfl,⟨rfl,hm⟩,k,y,hs⟩;have M5:=hid (Sim.cntL M4.out hs);have e0:V<=100000:=zoz hm y.few;have T5:=hid (S4.out.read k y);have m:=hid (m.out.step (Kd.keeps kRef) (Hi.low (Hi.rn k f.out.1) (zos _)));have N:=hid (N.out.step (Kd.keeps kInt) (Hi.low (Hi.rn k f.out.1) (zos _)));have r:Hid (B0<=Q.heap.size):=zoz r.out k.size;clear A k y hs hm;obtain⟨WL5,eWL⟩:∃W,W=Q:=⟨_,rfl⟩;obtain⟨C,eC⟩:∃C,C=Q.heap.size:=⟨_,rfl⟩;have I:Hid (p<C/\rb<C/\bx<C/\B0<=C/\Q.heap.size<=C/\C<=Q.heap.size):=by have h1:=f.out;have h2:=r.out;show _/\_;omega
    have a2:Hid (RowS kNum 96 C ([].map id) ⟨none,0,0⟩ Q):=RowS.nil _ _ I.out.2.2.2.2.2;have a0:=hid (Sim.loop0 s5 (zo0 zs) V);have a4:Hid (Hi B0 WL5 Q):=by rw[eWL];exact Hi.refl _ _
    clear eC;rw[<-eWL]at m;rw[<-eWL]at N;rw[<-eWL]at I r;clear eWL;go_wp2;go_loopw [6] (fun q wr=>∃(i:Nat) (X:List (Int)) (sl:QSl) (s2:Except (Int × Int) Nat),q=.int .i64 i/\Hid (i<=V/\X.length=i)/\Hid (RowS kNum 96 C (X.map id) sl wr)/\Hid (TS2 p a c zs 63 rb bx w s2 [.int .i64 0,.slice none 0 0,.slice none 0 0,.int .i64 0,.int .i64 0,.slice none 0 0] [.int .i64 F,.slice q1r.a q1r.n q1r.c,.slice q2.a q2.n q2.c,.int .i64 G,.int .i64 J,.slice sl.a sl.n sl.c] wr)/\Hid (Hi B0 WL5 wr)/\Hid (Sim s5 (fun t=>xh (zo0 zs) V t) s2 fun t=>y7 (xk X (xh (zo0 zs) (V-i) t)) fun l u=>.ok (l,u))) (fun q _=>V-(intOf q).toNat)
    case atStart=>exact⟨0,[],⟨none,0,0⟩,s5,rfl,⟨zon _,rfl⟩,a2,T5,a4,a0⟩
    case round=>
     clear a2 a4 a0 T5;obtain⟨i,X,sl,s2,rfl,HI,L,R,T,HM⟩:=hrel;have HO:=hid (tok R.out.st.tk);go_upto_region 12 with fail
     go_cut [45]from 39 to 45 (fun v wc=>v=.bool (decide (i<V)&&okE s2)/\wr=wc)
     case first=>
      by_cases D:i<V
      ·have c3:(i:Int)<(V:Int):=by omega
       go_wp2_with fail
       refine HO.out.mono ?_;rintro e w2 ⟨rfl,rfl⟩;go_wp2_with fail
       go_meet
       exact⟨by simp[D],rfl⟩
      ·have c3:¬(i:Int)<(V:Int):=by omega
       go_wp2_with fail
       go_meet
       exact⟨by simp[D],rfl⟩
     case rest=>
      obtain⟨rfl,rfl⟩:=hcut;clear HO;cases H:(decide (i<V)&&okE s2)
      ·have M:=zpy H;have c6:=hid (Sim.next M5.out (HM.out.done M));have r:Hid (B0<=wr.heap.size):=zoz r.out T.out.size;have m:=hid (m.out.step (Kd.keeps kRef) (Hi.low T.out (zos _)));have N:=hid (N.out.step (Kd.keeps kInt) (Hi.low T.out (zos _)));obtain⟨q5r,eq5r⟩:∃q,q=sl:=⟨_,rfl⟩;rw[<-eq5r]at R L;obtain⟨L5r,eL5r⟩:∃l,l=X.map id:=⟨_,rfl⟩;obtain⟨x5r,ex5r⟩:∃l,l=X:=⟨_,rfl⟩;rw[<-eL5r]at L;have c9:=hid (QRow.cov L.out.fin.1 (Kd.covs kNum) (qq wr I.out.2.2.2.1));have d4:=hid L.out.fin.2;have d6:Hid (L5r=x5r.map id):=by show _=_;rw[ex5r];exact eL5r
       have b7:Hid _:=c6;rw[<-ex5r]at b7;have j:=R;clear L HM HI T R M H I c6 eq5r eL5r ex5r;obtain⟨sx,esx⟩:∃x,x=s2:=⟨_,rfl⟩;rw[<-esx]at j b7;clear esx;have b0:=j.out.box.cell (i:=0) rfl;have r0:=j.out.st.box.cell (i:=0) rfl;have y0:=j.out.st.box.fz 0;have b1:=j.out.box.cell (i:=1) rfl;have r1:=j.out.st.box.cell (i:=1) rfl;have y1:=j.out.st.box.fz 1;have b2:=j.out.box.cell (i:=2) rfl;have r2:=j.out.st.box.cell (i:=2) rfl;have y2:=j.out.st.box.fz 2;have b3:=j.out.box.cell (i:=3) rfl;have r3:=j.out.st.box.cell (i:=3) rfl;have y3:=j.out.st.box.fz 3;have b4:=j.out.box.cell (i:=4) rfl;have r4:=j.out.st.box.cell (i:=4) rfl;have y4:=j.out.st.box.fz 4;have b5:=j.out.box.cell (i:=5) rfl;have r5:=j.out.st.box.cell (i:=5) rfl;have y5:=j.out.st.box.fz 5;have l0:=j.out.box.lt;have l1:=j.out.st.box.lt;have n1:¬bx=rb:=by have:=j.out.lt;omega
       have n2:¬rb=bx:=by have:=j.out.lt;omega
       have TE:=((((((j.out.putr 0 (.int .i64 F)).putr 1 (.slice q1r.a q1r.n q1r.c)).putr 2 (.slice q2.a q2.n q2.c)).putr 3 (.int .i64 G)).putr 4 (.int .i64 J)).putr 5 (.slice q5r.a q5r.n q5r.c));have a8:=QRow.cov (QRow.step m.out (Kd.keeps kRef) (Hi.low (((((((Hi.refl B0 wr).put f.out.2.1 0 (.int .i64 F)).put f.out.2.1 1 (.slice q1r.a q1r.n q1r.c)).put f.out.2.1 2 (.slice q2.a q2.n q2.c)).put f.out.2.1 3 (.int .i64 G)).put f.out.2.1 4 (.int .i64 J)).put f.out.2.1 5 (.slice q5r.a q5r.n q5r.c)) (zos _))) (Kd.covs kRef) (qq _ a5.out);have d3:=QRow.cov (QRow.step N.out (Kd.keeps kInt) (Hi.low (((((((Hi.refl B0 wr).put f.out.2.1 0 (.int .i64 F)).put f.out.2.1 1 (.slice q1r.a q1r.n q1r.c)).put f.out.2.1 2 (.slice q2.a q2.n q2.c)).put f.out.2.1 3 (.int .i64 G)).put f.out.2.1 4 (.int .i64 J)).put f.out.2.1 5 (.slice q5r.a q5r.n q5r.c)) (zos _))) (Kd.covs kInt) (qq _ a5.out);have a7:=QRow.cov (QRow.step c9.out (Kd.keeps kNum) (Hi.low (((((((Hi.refl B0 wr).put f.out.2.1 0 (.int .i64 F)).put f.out.2.1 1 (.slice q1r.a q1r.n q1r.c)).put f.out.2.1 2 (.slice q2.a q2.n q2.c)).put f.out.2.1 3 (.int .i64 G)).put f.out.2.1 4 (.int .i64 J)).put f.out.2.1 5 (.slice q5r.a q5r.n q5r.c)) (zos _))) (Kd.covs kNum) (qq _ a5.out);have HE:Hid (TD p a c zs s (zpz zs) (zqq kTab TabD.p zqL w.heap.size) w (.returned (.agg #[.int .i64 F,.slice q1r.a q1r.n q1r.c,.slice q2.a q2.n q2.c,.int .i64 G,.int .i64 J,.slice q5r.a q5r.n q5r.c])) ((((((wr.setCell ⟨rb,0,none⟩ (.int .i64 F)).setCell ⟨rb,1,none⟩ (.slice q1r.a q1r.n q1r.c)).setCell ⟨rb,2,none⟩ (.slice q2.a q2.n q2.c)).setCell ⟨rb,3,none⟩ (.int .i64 G)).setCell ⟨rb,4,none⟩ (.int .i64 J)).setCell ⟨rb,5,none⟩ (.slice q5r.a q5r.n q5r.c))):=⟨_,⟨F,x1r,x2,G,J,x5r⟩,sx,rfl,⟨⟨F,q1r,L1r,q2,L2,G,J,q5r,L5r⟩,rfl,⟨⟨d8.out,c5.out.1,N2.out.1,d9.out,d7.out,d4.out.1⟩,a8,zad d3,zj3 a7⟩,(by show(⟨F,L1r,L2,G,J,L5r⟩:PTab)=⟨F,x1r.map zqu,x2,G,J,x5r⟩;rw[d2.out,show L2=x2 from(List.map_id _).symm.trans (P2.out.trans (List.map_id _)),show L5r=x5r from d6.out.trans (List.map_id _)])⟩,TE.st.rn,TE.st.tk,b7.out⟩
       clear TE a8 m c5 d2 d3 N N2 P2 a7 c9 d4 d6 j f a5 r;go_wp2;exact bodyPost_ret (v:=.agg #[.int .i64 F,.slice q1r.a q1r.n q1r.c,.slice q2.a q2.n q2.c,.int .i64 G,.int .i64 J,.slice q5r.a q5r.n q5r.c]) (by simp[results,Tryz.results79,go_sem, *]) rfl HE.out
      ·have D:=zpP H;clear H;have BD:Hid (Below wr.heap.size wr wr.drew):=⟨rfl,rfl,rfl,zos _,fun _ _=>rfl⟩
       have SD:=hid (R.out.step BD.out);have A:=hid (zq6 SD.out.st.tk);have Y:=SD.out.box.cell (i:=5) rfl;have c4:=SD.out.box.lt;go_upto_region 14 with fail
       refine zde 6 (by kernel_rfl) (by kernel_rfl) ?_
       refine wpAny_of_held (S:=(fun w'=>w'.cell? ⟨bx,5,none⟩=some (.slice sl.a sl.n sl.c))) _ _ _ _ ?_
       have g:(fun w'=>w'.cell? ⟨bx,5,none⟩=some (.slice sl.a sl.n sl.c)) wr.drew:=Y
       refine wpAnyH_take (i:=0) (v:=?_) (jL rfl) (by kernel_rfl) (by kernel_rfl) (by kernel_rfl) (fun _ _ _ h=>h) (Or.inl ⟨by rfl,?_⟩) g ?_
       rotate_left
       ·intro w0 E;try dsimp only at E
        go_simp
        try with_reducible rfl
       try simp only[Act.put,List.setIfInBounds_toArray,List.set_cons_zero,List.set_cons_succ]
       refine wpAnyH_take (i:=1) (v:=?_) (jL rfl) (by kernel_rfl) (by kernel_rfl) (by kernel_rfl) (fun _ _ _ h=>h) (Or.inl ⟨by rfl,?_⟩) g ?_
       rotate_left
       ·intro w0 E;try dsimp only at E
        go_simp
        try with_reducible rfl
       try simp only[Act.put,List.setIfInBounds_toArray,List.set_cons_zero,List.set_cons_succ]
       refine wpAnyH_take (i:=2) (v:=?_) (jL rfl) (by kernel_rfl) (by kernel_rfl) (by kernel_rfl) (fun _ _ _ h=>h) (Or.inl ⟨by rfl,?_⟩) g ?_
       rotate_left
       ·intro w0 E;try dsimp only at E
        go_simp
        try with_reducible rfl
       try simp only[Act.put,List.setIfInBounds_toArray,List.set_cons_zero,List.set_cons_succ]
       refine wpAnyH_ready (rs:=[3]) (by kernel_rfl) (by simp) ?_
       refine AllReadyH.cons (jL rfl) (fun K O=>?_) AllReadyH.nil
       go_simp
       go_at_call 127
       refine A.out.mono ?_;rintro e Q ⟨_,x,s3,rfl,⟨rfl,hu⟩,k,y,hs⟩;skip
       have a3:=HI.out;have S5:=SD.out.read k y;have B3:=ze (o:=.cells [.int .u64 (x:Int)].toArray 96) (zof Q.heap.size Q);obtain⟨d,w7,P,en,row,hb⟩:=RowS.push 61 Tryz.underlying61 Tryz.infoNum rfl (by decide) L.out (((Hi.of BD.out).trans (Hi.rn k I.out.1)).trans (Hi.of B3)) (zoz I.out.2.2.2.2.2 T.out.size) (x:=((x:Nat):Int)) (zkC (x:Int) ⟨by omega,by omega⟩) (ad:=⟨Q.heap.size,0,none⟩) (c:=1) zbH (by have h1:=L.out.len;rw[zoE]at h1;omega)
       have S6:=S5.step B3;have S7:=S6.far hb I.out.2.2.1;have a1:=S5.box.cell (i:=5) rfl;have Z:=S6.box.cell (i:=5) rfl;have c1:=S7.box.cell (i:=5) rfl;have z7:=S7.box.fz 5;have l7:=S7.box.lt;have b6:=hid (HM.out.elem D (zqd hs));have c2:Hid (TS2 p a c zs 63 rb bx w s3 [.int .i64 0,.slice none 0 0,.slice none 0 0,.int .i64 0,.int .i64 0,.slice none 0 0] [.int .i64 F,.slice q1r.a q1r.n q1r.c,.slice q2.a q2.n q2.c,.int .i64 G,.int .i64 J,.slice d.a d.n d.c] (w7.setCell ⟨bx,5,none⟩ (.slice d.a d.n d.c))):=S7.put 5 (.slice d.a d.n d.c);have c0:Hid (Hi B0 WL5 (w7.setCell ⟨bx,5,none⟩ (.slice d.a d.n d.c))):=(((((T.out.trans (Hi.of BD.out)).trans (Hi.rn k f.out.1)).trans (Hi.of B3)).far hb I.out.2.2.2.2.1)).put f.out.2.2 5 (.slice d.a d.n d.c);have b8:Hid (RowS kNum 96 C ((X++[(x:Int)]).map id) d (w7.setCell ⟨bx,5,none⟩ (.slice d.a d.n d.c))):=by show RowS _ _ _ _ _ _;rw[List.map_append];exact row.keep ((Hi.refl C w7).put I.out.2.2.1 5 (.slice d.a d.n d.c))
       have b9:Hid (i+1<=V/\(X++[(x:Int)]).length=i+1):=⟨D,by rw[List.length_append,a3.2];rfl⟩
       clear A hs y k S5 S6 S7 SD BD en row hb B3 a3 L R T HM HI hu;refine O.out _ _ a1 (fun g=>?_)
       clear O K;try simp only[List.setIfInBounds_toArray]
       refine wpAnyH_ready (rs:=[4]) (by kernel_rfl) (by simp) ?_
       refine AllReadyH.cons (jL rfl) (fun K O=>?_) AllReadyH.nil
       go_simp
       refine O.out _ _ Z (fun g=>?_)
       clear O K;try simp only[List.setIfInBounds_toArray]
       refine wpAnyH_ready (rs:=[5]) (by kernel_rfl) (by simp) ?_
       refine AllReadyH.cons (jL rfl) (fun K O=>?_) AllReadyH.nil
       refine zac rfl _ _ rfl (by simp[Act.eval]) (by simp[Act.eval]) P ?_
       refine O.out _ _ c1 (fun g=>?_)
       clear O K;try simp only[List.setIfInBounds_toArray]
       refine wpAnyH_done (by kernel_rfl) ?_ _
       dsimp only[zbv];clear g P Y a1 Z c4;go_wp2;go_roundw
       case rel=>exact⟨i+1,X++[(x:Int)],d,s3,by go_num,b9,b8,c2,c0,b6⟩
       case measure=>simp[intOf];omega
   ·have D:=zpP H;clear H;have BD:Hid (Below wr.heap.size wr wr.drew):=⟨rfl,rfl,rfl,zos _,fun _ _=>rfl⟩
    have SD:=hid (R.out.step BD.out);have A:=hid (ztW SD.out.st.tk);have Y:=SD.out.box.cell (i:=1) rfl;have c4:=SD.out.box.lt;go_upto_region 6 with fail
    refine zde 6 (by kernel_rfl) (by kernel_rfl) ?_
    refine wpAny_of_held (S:=(fun w'=>w'.cell? ⟨bx,1,none⟩=some (.slice sl.a sl.n sl.c))) _ _ _ _ ?_
    have g:(fun w'=>w'.cell? ⟨bx,1,none⟩=some (.slice sl.a sl.n sl.c)) wr.drew:=Y
    refine wpAnyH_take (i:=0) (v:=?_) (jL rfl) (by kernel_rfl) (by kernel_rfl) (by kernel_rfl) (fun _ _ _ h=>h) (Or.inl ⟨by rfl,?_⟩) g ?_
    rotate_left
    ·intro w0 E;try dsimp only at E
     go_simp
     try with_reducible rfl
    try simp only[Act.put,List.setIfInBounds_toArray,List.set_cons_zero,List.set_cons_succ]
    refine wpAnyH_take (i:=1) (v:=?_) (jL rfl) (by kernel_rfl) (by kernel_rfl) (by kernel_rfl) (fun _ _ _ h=>h) (Or.inl ⟨by rfl,?_⟩) g ?_
    rotate_left
    ·intro w0 E;try dsimp only at E
     go_simp
     try with_reducible rfl
    try simp only[Act.put,List.setIfInBounds_toArray,List.set_cons_zero,List.set_cons_succ]
    refine wpAnyH_take (i:=2) (v:=?_) (jL rfl) (by kernel_rfl) (by kernel_rfl) (by kernel_rfl) (fun _ _ _ h=>h) (Or.inl ⟨by rfl,?_⟩) g ?_
    rotate_left
    ·intro w0 E;try dsimp only at E
     go_simp
     try with_reducible rfl
    try simp only[Act.put,List.setIfInBounds_toArray,List.set_cons_zero,List.set_cons_succ]
    refine wpAnyH_ready (rs:=[3]) (by kernel_rfl) (by simp) ?_
    refine AllReadyH.cons (jL rfl) (fun K O=>?_) AllReadyH.nil
    go_simp
    go_at_call 126
    refine A.out.mono ?_;rintro e Q ⟨_,x,s3,rfl,⟨rfl,wh,wf⟩,k,y,hs⟩;skip
    have a3:=HI.out;have S5:=SD.out.read k y;have B3:=ze (o:=.cells [.int .i64 x.1,.int .i64 x.2].toArray 48) (zof Q.heap.size Q);obtain⟨d,w7,P,en,row,hb⟩:=RowS.push 60 Tryz.underlying60 Tryz.infoRef rfl (by decide) L.out (((Hi.of BD.out).trans (Hi.rn k I.out.1)).trans (Hi.of B3)) (zoz I.out.2.2.2.2.2 T.out.size) (x:=zqu x) ⟨wh,wf⟩ (ad:=⟨Q.heap.size,0,none⟩) (c:=1) zbH (by have h1:=L.out.len;rw[zoE]at h1;omega)
    have S6:=S5.step B3;have S7:=S6.far hb I.out.2.2.1;have a1:=S5.box.cell (i:=1) rfl;have Z:=S6.box.cell (i:=1) rfl;have c1:=S7.box.cell (i:=1) rfl;have z7:=S7.box.fz 1;have l7:=S7.box.lt;have b6:=hid (HM.out.elem D hs);have c2:Hid (TS2 p a c zs 63 rb bx w s3 [.int .i64 0,.slice none 0 0,.slice none 0 0,.int .i64 0,.int .i64 0,.slice none 0 0] [.int .i64 F,.slice d.a d.n d.c,.slice none 0 0,.int .i64 0,.int .i64 0,.slice none 0 0] (w7.setCell ⟨bx,1,none⟩ (.slice d.a d.n d.c))):=S7.put 1 (.slice d.a d.n d.c);have c0:Hid (Hi B0 WL1 (w7.setCell ⟨bx,1,none⟩ (.slice d.a d.n d.c))):=(((((T.out.trans (Hi.of BD.out)).trans (Hi.rn k f.out.1)).trans (Hi.of B3)).far hb I.out.2.2.2.2.1)).put f.out.2.2 1 (.slice d.a d.n d.c);have b8:Hid (RowS kRef 48 C ((X++[x]).map zqu) d (w7.setCell ⟨bx,1,none⟩ (.slice d.a d.n d.c))):=by show RowS _ _ _ _ _ _;rw[List.map_append];exact row.keep ((Hi.refl C w7).put I.out.2.2.1 1 (.slice d.a d.n d.c))
    have b9:Hid (i+1<=U/\(X++[x]).length=i+1):=⟨D,by rw[List.length_append,a3.2];rfl⟩
    clear A hs y k S5 S6 S7 SD BD en row hb B3 a3 L R T HM HI wh wf;refine O.out _ _ a1 (fun g=>?_)
    clear O K;try simp only[List.setIfInBounds_toArray]
    refine wpAnyH_ready (rs:=[4]) (by kernel_rfl) (by simp) ?_
    refine AllReadyH.cons (jL rfl) (fun K O=>?_) AllReadyH.nil
    go_simp
    refine O.out _ _ Z (fun g=>?_)
    clear O K;try simp only[List.setIfInBounds_toArray]
    refine wpAnyH_ready (rs:=[5]) (by kernel_rfl) (by simp) ?_
    refine AllReadyH.cons (jL rfl) (fun K O=>?_) AllReadyH.nil
    refine zac rfl _ _ rfl (by simp[Act.eval]) (by simp[Act.eval]) P ?_
    refine O.out _ _ c1 (fun g=>?_)
    clear O K;try simp only[List.setIfInBounds_toArray]
    refine wpAnyH_done (by kernel_rfl) ?_ _
    dsimp only[zbv];clear g P Y a1 Z c4;go_wp2;go_roundw
    case rel=>exact⟨i+1,X++[x],d,s3,by go_num,b9,b8,c2,c0,b6⟩
    case measure=>simp[intOf];omega
theorem zu2{p:Nat}{a:Option Addr}{c:Nat}{zs:List Int}{s:Except (Int × Int) Nat}{w:World}(h:Tk p a c zs s w):
 Calls Tryz.prog 77 #[.pointer (some ⟨p,0,none⟩)] w (TD p a c zs s (zk0 zs) (zqq kState StateD.p zpL w.heap.size) w):=by
 obtain⟨W0,eW0⟩:∃W,W=w.alloc (.cells #[.int .i64 0,.int .i64 0,.int .i64 0,.slice none 0 0,.int .i64 0] 51):=⟨_,rfl⟩;obtain⟨rb,erb⟩:∃b,b=w.heap.size:=⟨_,rfl⟩;have R0:Hid (TSt p a c zs 51 rb w s [.int .i64 0,.int .i64 0,.int .i64 0,.slice none 0 0,.int .i64 0] W0):=by rw[eW0,erb];exact TSt.start h (Rn.refl _ _) _ _
 have HP:=hid h.lt;have EW:=hid eW0;have ER:=hid erb;have y:=hid (zpk R0.out.tk);clear h eW0 erb;go_enter Tryz.func77,Tryz.ntmps77
 go_wp2_with fail
 rw[<-EW.out,<-ER.out];clear EW ER;refine y.out.mono ?_;rintro e w0 ⟨_,A,s0,rfl,⟨rfl,wf⟩,j,r,hs⟩;have M0:=hid (Sim.next (Sim.refl s (zk0 zs)) hs);have R1:=hid (R0.out.read j r);obtain⟨V0,eV⟩:∃W,W=w0.alloc (.cells #[.int .i64 A,.int .i64 0,.int .i64 0,.slice none 0 0,.int .i64 0] 51):=⟨_,rfl⟩;obtain⟨bx,ebx⟩:∃b,b=w0.heap.size:=⟨_,rfl⟩;have T:Hid (TS2 p a c zs 51 rb bx w s0 [.int .i64 0,.int .i64 0,.int .i64 0,.slice none 0 0,.int .i64 0] [.int .i64 A,.int .i64 0,.int .i64 0,.slice none 0 0,.int .i64 0] V0):=by rw[eV,ebx];exact TS2.start R1.out _
 have a3:=hid wf;obtain⟨B0,eB0⟩:∃B,B=V0.heap.size:=⟨_,rfl⟩;have m:Hid (p<B0/\rb<B0/\bx<B0):=⟨by rw[eB0];exact T.out.st.tk.lt,by rw[eB0];exact T.out.st.box.lt,by rw[eB0];exact T.out.box.lt⟩
 have R:Hid (w.heap.size<=B0):=by show _<=B0;rw[eB0];exact T.out.st.rn.size
 have C:Hid (B0<=V0.heap.size):=by show B0<=_;rw[eB0];exact zos _
 have EV:=hid eV;have EB:=hid ebx;clear y R0 R1 j r hs wf eV ebx eB0;have y:=hid (zp1 T.out.st.tk);go_wp2_with fail
 rw[<-EV.out,<-EB.out];clear EV EB;refine y.out.mono ?_;rintro e w1 ⟨_,D,s1,rfl,⟨rfl,hm⟩,j,r,hs⟩;have M1:=hid (Sim.next M0.out hs);have c5:D<=100000:=zoz hm r.few;have U:=hid (T.out.read j r);have C:Hid (B0<=w1.heap.size):=zoz C.out j.size;clear y j r hs hm T M0;by_cases h0:D=0
 ·subst h0;have ME:Hid (Sim s (zk0 zs) s1 fun t=>y7 (ke zs t) fun el u5=>.ok (⟨A,(0,0),[],el⟩,u5)):=Sim.eq M1.out (fun t=>rfl)
  clear M1;go_wp2;go_loopw [5] (fun q wr=>q=.int .i64 0/\Hid (w1=wr)) (fun _ _=>0)
  case atStart=>exact⟨rfl,rfl⟩
  case round=>
   obtain⟨rfl,S⟩:=hrel;have S:=S.out;subst S;have y:=hid (zpk U.out.st.tk);go_wp2_with fail
   refine y.out.mono ?_;rintro e w2 ⟨_,g,s2,rfl,⟨rfl,wf⟩,j,r,hs⟩;have M2:=hid (Sim.next ME.out hs);have f:=hid (U.out.read j r);have C:Hid (B0<=w2.heap.size):=zoz C.out j.size;have I:=hid wf;clear wf;clear y j r hs U;have b4:=f.out.box.cell (i:=4) rfl;have z4:=f.out.box.fz 4;have Z:=f.out.box.lt;have b0:=f.out.box.cell (i:=0) rfl;have r0:=f.out.st.box.cell (i:=0) rfl;have y0:=f.out.st.box.fz 0;have b1:=f.out.box.cell (i:=1) rfl;have r1:=f.out.st.box.cell (i:=1) rfl;have y1:=f.out.st.box.fz 1;have b2:=f.out.box.cell (i:=2) rfl;have r2:=f.out.st.box.cell (i:=2) rfl;have y2:=f.out.st.box.fz 2;have b3:=f.out.box.cell (i:=3) rfl;have r3:=f.out.st.box.cell (i:=3) rfl;have J:=f.out.st.box.fz 3;have b4:=f.out.box.cell (i:=4) rfl;have r4:=f.out.st.box.cell (i:=4) rfl;have y4:=f.out.st.box.fz 4;have z4:=f.out.box.fz 4;have Z:=f.out.box.lt;have l1:=f.out.st.box.lt;have n1:¬bx=rb:=by have:=f.out.lt;omega
   have n2:¬rb=bx:=by have:=f.out.lt;omega
   have E:=((((((f.out.put 4 (.int .i64 g)).putr 0 (.int .i64 A)).putr 1 (.int .i64 0)).putr 2 (.int .i64 0)).putr 3 (.slice none 0 0)).putr 4 (.int .i64 g));have HE:Hid (TD p a c zs s (zk0 zs) (zqq kState StateD.p zpL w.heap.size) w (.returned (.agg #[.int .i64 A,.int .i64 0,.int .i64 0,.slice none 0 0,.int .i64 g])) ((((((w2.setCell ⟨bx,4,none⟩ (.int .i64 g)).setCell ⟨rb,0,none⟩ (.int .i64 A)).setCell ⟨rb,1,none⟩ (.int .i64 0)).setCell ⟨rb,2,none⟩ (.int .i64 0)).setCell ⟨rb,3,none⟩ (.slice none 0 0)).setCell ⟨rb,4,none⟩ (.int .i64 g))):=⟨_,⟨A,(0,0),[],g⟩,s2,rfl,⟨⟨A,⟨0,0⟩,⟨none,0,0⟩,[],g⟩,rfl,⟨⟨a3.out,rfl,rfl,fun _=>⟨rfl,rfl⟩,I.out⟩,rfl,by simp⟩,rfl⟩,E.st.rn,E.st.tk,M2.out⟩
   clear E f m R C;go_wp2;exact bodyPost_ret (v:=.agg #[.int .i64 A,.int .i64 0,.int .i64 0,.slice none 0 0,.int .i64 g]) (by simp[results,Tryz.results77,go_sem, *]) rfl HE.out
 ·have c0:(0:Int)<(D:Int):=by omega
  have ME:Hid (Sim s (zk0 zs) s1 fun t=>y7 (jp zs t) fun on u3=>y7 (xh (zph zs) D u3) fun cs u4=>y7 (ke zs u4) fun el u5=>.ok (⟨A,on,cs,el⟩,u5)):=Sim.eq M1.out (fun t=>by rw[if_neg h0])
  clear M1;have y:=hid (ztW U.out.st.tk);go_wp2_with fail
  refine y.out.mono ?_;rintro e w2 ⟨_,g,s2,rfl,⟨rfl,wh,wf⟩,j,r,hs⟩;have M2:=hid (Sim.next ME.out hs);have f:=hid (U.out.read j r);have C:Hid (B0<=w2.heap.size):=zoz C.out j.size;have I:=hid (And.intro wh wf);clear wh wf;clear y j r hs U;have b1:=f.out.box.cell (i:=1) rfl;have b2:=f.out.box.cell (i:=2) rfl;have z1:=f.out.box.fz 1;have z2:=f.out.box.fz 2;have Z:=f.out.box.lt;obtain⟨V2,eV⟩:∃W,W=((w2.setCell ⟨bx,1,none⟩ (.int .i64 g.1)).setCell ⟨bx,2,none⟩ (.int .i64 g.2)):=⟨_,rfl⟩;have S2:Hid (TS2 p a c zs 51 rb bx w s2 [.int .i64 0,.int .i64 0,.int .i64 0,.slice none 0 0,.int .i64 0] [.int .i64 A,.int .i64 g.1,.int .i64 g.2,.slice none 0 0,.int .i64 0] V2):=by rw[eV];exact((f.out.put 1 (.int .i64 g.1)).put 2 (.int .i64 g.2))
  have EV:=hid eV;have C:Hid (B0<=V2.heap.size):=by show B0<=_;rw[eV];simpa[World.setCell]using C.out
  clear eV f;have a6:Hid (RowS kCase 98 V2.heap.size ([].map zqe) ⟨none,0,0⟩ V2):=RowS.nil _ _ (zos _);have HC:Hid (p<V2.heap.size/\rb<V2.heap.size/\bx<V2.heap.size/\B0<=V2.heap.size):=by have h1:=m.out;have h2:=C.out;show _/\_;omega
  have a4:=hid (Sim.loop0 s2 (zph zs) D);have a9:=hid (Hi.refl B0 V2);go_wp2;rw[<-EV.out];clear EV b1 b2 z1 z2 Z;go_loopw [5] (fun q wr=>∃(i:Nat) (X:List (Int × Int × Int)) (sl:QSl) (s9:Except (Int × Int) Nat),q=.int .i64 i/\Hid (i<=D/\X.length=i)/\Hid (RowS kCase 98 V2.heap.size (X.map zqe) sl wr)/\Hid (TS2 p a c zs 51 rb bx w s9 [.int .i64 0,.int .i64 0,.int .i64 0,.slice none 0 0,.int .i64 0] [.int .i64 A,.int .i64 g.1,.int .i64 g.2,.slice sl.a sl.n sl.c,.int .i64 0] wr)/\Hid (Hi B0 V2 wr)/\Hid (Sim s2 (fun t=>xh (zph zs) D t) s9 fun t=>y7 (xk X (xh (zph zs) (D-i) t)) fun l u=>.ok (l,u))) (fun q _=>D-(intOf q).toNat)
  case atStart=>exact⟨0,[],⟨none,0,0⟩,s2,rfl,⟨zon _,rfl⟩,a6,S2,a9,a4⟩
  case round=>
   clear a6 a9 a4 S2 c0;obtain⟨i,X,sl,s3,rfl,HI,V,M,HH,HM⟩:=hrel;have HO:=hid (tok M.out.st.tk);go_upto_region 6 with fail
   go_cut [23]from 17 to 23 (fun v wc=>v=.bool (decide (i<D)&&okE s3)/\wr=wc)
   case first=>
    by_cases F:i<D
    ·have c4:(i:Int)<(D:Int):=by omega
     go_wp2_with fail
     refine HO.out.mono ?_;rintro e w2 ⟨rfl,rfl⟩;go_wp2_with fail
     go_meet
     exact⟨by simp[F],rfl⟩
    ·have c4:¬(i:Int)<(D:Int):=by omega
     go_wp2_with fail
     go_meet
     exact⟨by simp[F],rfl⟩
   case rest=>
    obtain⟨rfl,rfl⟩:=hcut;clear HO;cases K:(decide (i<D)&&okE s3)
    ·have O:=zpy K;have M3:=hid (Sim.next M2.out (HM.out.done O));have C:Hid (B0<=wr.heap.size):=zoz C.out HH.out.size;have Q3:=hid (QRow.cov V.out.fin.1 (Kd.covs kCase) (qq wr HC.out.2.2.2));have N3:=hid V.out.fin.2;have S3:=M;clear V HM HI HH M O K HC;obtain⟨P3,-⟩:True/\True:=⟨trivial,trivial⟩;have y:=hid (zpk S3.out.st.tk);go_wp2_with fail
     refine y.out.mono ?_;rintro e w4 ⟨_,H,s4,rfl,⟨rfl,wf⟩,j,r,hs⟩;have M4:=hid (Sim.next M3.out hs);have k:=hid (S3.out.read j r);have Q3:=hid (Q3.out.step (Kd.keeps kCase) (Hi.low (Hi.rn j m.out.1) (zos _)));have C:Hid (B0<=w4.heap.size):=zoz C.out j.size;have b6:=hid wf;clear wf;clear y j r hs S3;have b4:=k.out.box.cell (i:=4) rfl;have z4:=k.out.box.fz 4;have Z:=k.out.box.lt;have b0:=k.out.box.cell (i:=0) rfl;have r0:=k.out.st.box.cell (i:=0) rfl;have y0:=k.out.st.box.fz 0;have b1:=k.out.box.cell (i:=1) rfl;have r1:=k.out.st.box.cell (i:=1) rfl;have y1:=k.out.st.box.fz 1;have b2:=k.out.box.cell (i:=2) rfl;have r2:=k.out.st.box.cell (i:=2) rfl;have y2:=k.out.st.box.fz 2;have b3:=k.out.box.cell (i:=3) rfl;have r3:=k.out.st.box.cell (i:=3) rfl;have J:=k.out.st.box.fz 3;have b4:=k.out.box.cell (i:=4) rfl;have r4:=k.out.st.box.cell (i:=4) rfl;have y4:=k.out.st.box.fz 4;have z4:=k.out.box.fz 4;have Z:=k.out.box.lt;have l1:=k.out.st.box.lt;have n1:¬bx=rb:=by have:=k.out.lt;omega
     have n2:¬rb=bx:=by have:=k.out.lt;omega
     have E:=((((((k.out.put 4 (.int .i64 H)).putr 0 (.int .i64 A)).putr 1 (.int .i64 g.1)).putr 2 (.int .i64 g.2)).putr 3 (.slice sl.a sl.n sl.c)).putr 4 (.int .i64 H));have b5:=QRow.cov (QRow.step Q3.out (Kd.keeps kCase) (Hi.low (((((((Hi.refl B0 w4).put m.out.2.2 4 (.int .i64 H)).put m.out.2.1 0 (.int .i64 A)).put m.out.2.1 1 (.int .i64 g.1)).put m.out.2.1 2 (.int .i64 g.2)).put m.out.2.1 3 (.slice sl.a sl.n sl.c)).put m.out.2.1 4 (.int .i64 H)) (zos _))) (Kd.covs kCase) (qq _ R.out);have HE:Hid (TD p a c zs s (zk0 zs) (zqq kState StateD.p zpL w.heap.size) w (.returned (.agg #[.int .i64 A,.int .i64 g.1,.int .i64 g.2,.slice sl.a sl.n sl.c,.int .i64 H])) ((((((w4.setCell ⟨bx,4,none⟩ (.int .i64 H)).setCell ⟨rb,0,none⟩ (.int .i64 A)).setCell ⟨rb,1,none⟩ (.int .i64 g.1)).setCell ⟨rb,2,none⟩ (.int .i64 g.2)).setCell ⟨rb,3,none⟩ (.slice sl.a sl.n sl.c)).setCell ⟨rb,4,none⟩ (.int .i64 H))):=⟨_,⟨A,g,X,H⟩,s4,rfl,⟨⟨A,⟨g.1,g.2⟩,sl,X.map zqe,H⟩,rfl,⟨⟨a3.out,I.out.1,I.out.2,N3.out.1,b6.out⟩,b5⟩,rfl⟩,E.st.rn,E.st.tk,M4.out⟩;clear E b5 Q3 N3 P3 k m R C;go_wp2;exact bodyPost_ret (v:=.agg #[.int .i64 A,.int .i64 g.1,.int .i64 g.2,.slice sl.a sl.n sl.c,.int .i64 H]) (by simp[results,Tryz.results77,go_sem, *]) rfl HE.out
    ·have F:=zpP K;clear K;obtain⟨W8,eW8⟩:∃W,W=wr.alloc (.cells #[.int .u64 0,.int .u64 0,.int .i64 0] 98):=⟨_,rfl⟩;obtain⟨cb,ecb⟩:∃b,b=wr.heap.size:=⟨_,rfl⟩;have E0:Hid (TSt p a c zs 98 cb wr s3 [.int .u64 0,.int .u64 0,.int .i64 0] W8):=by rw[eW8,ecb];exact TSt.start M.out.st.tk (Rn.refl _ _) _ _
     have EW:=hid eW8;have EC:=hid ecb;clear eW8 ecb;have y:=hid (zq6 E0.out.tk);go_wp2_with fail
     rw[<-EW.out,<-EC.out];clear EW;refine y.out.mono ?_;rintro e u91 ⟨_,L,t1,rfl,⟨rfl,Y⟩,j,r,hs⟩;have N1:=hid (Sim.next (Sim.refl s3 (zph zs)) (zqd hs));have F1:=E0.out.read j r;have a5:=hid (zkC (L:Int) ⟨by omega,by omega⟩)
     have d0:=F1.box.cell (i:=0) rfl;have e0:=F1.box.fz 0;have l9:=F1.box.lt;obtain⟨X1,eX⟩:∃W,W=u91.setCell ⟨cb,0,none⟩ (.int .u64 (L:Int)):=⟨_,rfl⟩;have E1:Hid (TSt p a c zs 98 cb wr t1 [.int .u64 (L:Int),.int .u64 0,.int .i64 0] X1):=by rw[eX];exact F1.put 0 _
     have EX:=hid eX;clear y j r hs Y F1 eX E0;have y:=hid (zq6 E1.out.tk);go_wp2_with fail
     rw[<-EX.out];clear EX d0 e0 l9;refine y.out.mono ?_;rintro e u92 ⟨_,N,t2,rfl,⟨rfl,Y⟩,j,r,hs⟩;have N2:=hid (Sim.next N1.out (zqd hs));have F2:=E1.out.read j r;have a2:=hid (zkC (N:Int) ⟨by omega,by omega⟩)
     have d1:=F2.box.cell (i:=1) rfl;have e1:=F2.box.fz 1;have l9:=F2.box.lt;obtain⟨X2,eX⟩:∃W,W=u92.setCell ⟨cb,1,none⟩ (.int .u64 (N:Int)):=⟨_,rfl⟩;have E2:Hid (TSt p a c zs 98 cb wr t2 [.int .u64 (L:Int),.int .u64 (N:Int),.int .i64 0] X2):=by rw[eX];exact F2.put 1 _
     have EX:=hid eX;clear y j r hs Y F2 eX E1;have y:=hid (zpk E2.out.tk);go_wp2_with fail
     rw[<-EX.out];clear EX d1 e1 l9;refine y.out.mono ?_;rintro e u93 ⟨_,J,t3,rfl,⟨rfl,Y⟩,j,r,hs⟩;have N3:=hid (Sim.next N2.out hs);have G:=E2.out.read j r;have a0:=hid Y;have d2:=G.box.cell (i:=2) rfl;have e2:=G.box.fz 2;have l9:=G.box.lt;clear y hs Y;have G:=G;have Q:=M.out.read G.rn G.tk;have d0:=G.box.cell (i:=0) rfl;have d1:=G.box.cell (i:=1) rfl;have b3:=Q.box.cell (i:=3) rfl;have Z:=Q.box.lt;have b8:bx<wr.heap.size:=M.out.box.lt;have n1:¬cb=bx:=by have h1:=EC.out;omega
     have n2:¬bx=cb:=fun h=>n1 h.symm
     have a7:=HI.out;have E:=G.put 2 (.int .i64 J);obtain⟨VE,eVE⟩:∃W,W=u93.setCell ⟨cb,2,none⟩ (.int .i64 J):=⟨_,rfl⟩;rw[<-eVE]at E;have B3:=ze (o:=.cells [.int .u64 (L:Int),.int .u64 (N:Int),.int .i64 J].toArray 98) (zof VE.heap.size VE);obtain⟨d,w7,P,en,row,hb⟩:=RowS.push 49 Tryz.underlying49 Tryz.infoCase rfl (by decide) V.out ((Hi.rn E.rn HC.out.1).trans (Hi.of B3)) HH.out.size (x:=zqe ((L:Int),(N:Int),J)) ⟨a5.out,a2.out,a0.out⟩ (ad:=⟨VE.heap.size,0,none⟩) (c:=1) zbH (by have h1:=V.out.len;rw[zoE]at h1;omega)
     have S6:=(M.out.read E.rn E.tk).step B3;have S7:=S6.far hb HC.out.2.2.1;have c6:=S7.box.cell (i:=3) rfl;have z7:=S7.box.fz 3;have l7:=S7.box.lt;have b7:=hid (HM.out.elem F N3.out);have c3:Hid (TS2 p a c zs 51 rb bx w t3 [.int .i64 0,.int .i64 0,.int .i64 0,.slice none 0 0,.int .i64 0] [.int .i64 A,.int .i64 g.1,.int .i64 g.2,Value.slice d.a d.n d.c,.int .i64 0] (w7.setCell ⟨bx,3,none⟩ (.slice d.a d.n d.c))):=S7.put 3 (.slice d.a d.n d.c);have c2:Hid (Hi B0 V2 (w7.setCell ⟨bx,3,none⟩ (.slice d.a d.n d.c))):=(((HH.out.trans (Hi.rn E.rn m.out.1)).trans (Hi.of B3)).far hb (zos _)).put m.out.2.2 3 (.slice d.a d.n d.c);have b9:Hid (RowS kCase 98 V2.heap.size ((X++[((L:Int),(N:Int),J)]).map zqe) d (w7.setCell ⟨bx,3,none⟩ (.slice d.a d.n d.c))):=by show RowS _ _ _ _ _ _;rw[List.map_append];exact row.keep ((Hi.refl _ w7).put HC.out.2.2.1 3 (.slice d.a d.n d.c))
     have c1:Hid (i+1<=D/\(X++[((L:Int),(N:Int),J)]).length=i+1):=⟨F,by rw[List.length_append,a7.2];rfl⟩
     have a1:=hid eVE;obtain⟨gb,egb⟩:∃b,b=VE.heap.size:=⟨_,rfl⟩;rw[<-egb]at P;have a8:Hid (gb=u93.heap.size):=by show gb=_;rw[egb,eVE];simp only[zow]
     clear egb E G Q S6 S7 j r en row hb B3 a7 V M HH HM HI eVE a5 a2 a0 N1 N2 N3 EC E2 b8;go_wp2_with (first|fail|(at_builtin;rw[<-a1.out,<-a8.out];clear a1 a8;refine yg rfl _ _ rfl rfl rfl P ?_))
     go_roundw
     case rel=>exact⟨i+1,X++[((L:Int),(N:Int),J)],d,t3,by go_num,c1,b9,c3,c2,b7⟩
     case measure=>simp[intOf];omega
theorem zsY{w:World}{p:Addr}{v:Value}(h:w.cell? p=some v):Below w.heap.size w (w.setCell p v):=by
 refine⟨rfl,rfl,rfl,by simp[World.setCell],fun k _=>?_⟩
 by_cases e:k=p.block
 ·subst e;unfold World.cell? at h;cases hb:w.heap[p.block]? with
  |none=>simp[World.setCell,Array.getElem?_modify,hb]
  |some o=>
   rw[hb]at h;cases o with
   |cells c t z=>
    simp only at h;split at h
    ·cases h
    ·rename_i hs
     have b:p.off<c.size:=by
      rcases Nat.lt_or_ge p.off c.size with g|g
      ·exact g
      ·rw[Array.getElem?_eq_none g]at h;cases h
     have d:c[p.off]=v:=by rw[zoT b]at h;exact zoq h
     have a:c.setIfInBounds p.off v=c:=by
      apply Array.ext
      ·simp
      ·intro i j f;rw[Array.getElem_setIfInBounds];split
       ·rename_i e;subst e;exact d.symm
       ·rfl
     simp[World.setCell,Array.getElem?_modify,hb,hs,a]
   |_=>simp at h
 ·exact zop _ _ _ _ e
theorem put_same{w:World}{p:Addr}{v:Value}(h:w.cell? p=some v):w.setCell p v=w:=by
 have hb:=zsY h;have hs:(w.setCell p v).heap.size=w.heap.size:=by simp[World.setCell]
 have e:(w.setCell p v).heap=w.heap:=by
  apply Array.ext_getElem?
  intro k;rcases Nat.lt_or_ge k w.heap.size with a|a
  ·exact hb.block k a
  ·rw[Array.getElem?_eq_none a,Array.getElem?_eq_none (by omega)]
 cases w
 simp only[World.setCell]at e ⊢;rw[e]
def Sl7(v:Value):Prop:=∃(j n m k h i l:Option Addr) (b g d a f c e:Nat),v=.agg #[.slice j b b,.slice n g g,.slice m d d,.slice k a a,.slice h f f,.slice i c c,.slice l e e]
theorem PlanV.sl{w w':World}{x:PlanX}{v:Value}(h:PlanV w x w' v):Sl7 v:=by
 obtain⟨v1,v2,v3,v4,v5,v6,j,e,⟨l,_,d,_⟩,⟨m,g,_⟩,⟨r,_,f,_⟩,⟨k,_,c,_⟩,⟨n,_,i,_⟩,⟨q,_,b,_⟩,⟨o,a,_⟩⟩:=h;subst d g f c i b a;exact⟨_,_,_,_,_,_,_,_,_,_,_,_,_,_,e⟩
def zqB(zs:List Int)(w:World)(e:Ending)(w':World):Prop:=Below w.heap.size w w'/\match zpq zs 3 with
 |.error (c,t)=>∃v,Sl7 v/\e=.returned (.tuple #[v,.agg #[.int .i64 c,.int .i64 t]])
 |.ok (x,u)=>(u<zs.length/\∃v,Sl7 v/\e=.returned (.tuple #[v,.agg #[.int .i64 4,.int .i64 (u:Int)]]))\/(u=zs.length/\∃v,PlanV w x w' v/\e=.returned (.tuple #[v,.agg #[.int .i64 0,.int .i64 0]]))
structure RpAt (w W : World) (b0 b1 p : Nat) (vs : List Value) : Prop where
 c0 : ∀ (k : Nat) (v : Value), vs[k]? = some v -> W.cell? ⟨b0, k, none⟩ = some v
 f0 : W.cell? ⟨b1, 0, none⟩ = some (.int .i64 0)
 f1 : W.cell? ⟨b1, 1, none⟩ = some (.int .i64 0)
 z0 : ∀ o, W.frozen? ⟨b0, o, none⟩ = false
 z1 : ∀ o, W.frozen? ⟨b1, o, none⟩ = false
 bel : Below w.heap.size w W
 lo : w.heap.size <= b0
 o1 : b0 < b1
 o2 : b1 < p
 o3 : p < W.heap.size
@[reducible] def nil7:List Value:=[.slice none 0 0,.slice none 0 0,.slice none 0 0,.slice none 0 0,.slice none 0 0,.slice none 0 0,.slice none 0 0]
theorem zu5(w:World)(a:Option Addr)(n c:Nat):RpAt w (((w.alloc (.cells #[.slice none 0 0,.slice none 0 0,.slice none 0 0,.slice none 0 0,.slice none 0 0,.slice none 0 0,.slice none 0 0] 29)).alloc (.cells #[.int .i64 0,.int .i64 0] 35)).alloc (.cells #[.slice a n c,.int .i64 3] 132)) w.heap.size (w.heap.size+1) (w.heap.size+2) nil7:=by
 refine⟨fun k v b=>?_,?_,?_,fun o=>?_,fun o=>?_,ze (ze (ze (zof _ _))),zos _,by omega,by omega,by simp⟩
 ·refine(zoe _ _ _ (by simp;omega)).trans ((zoe _ _ _ (by simp)).trans ((zod _ _ _ _ rfl).trans ?_))
  have:(nil7.toArray)[k]?=some v:=by rw[List.getElem?_toArray];exact b
  exact this
 ·exact(zoe _ _ _ (by simp)).trans ((zod _ _ _ _ (by simp)).trans rfl)
 ·exact(zoe _ _ _ (by simp)).trans ((zod _ _ _ _ (by simp)).trans rfl)
 ·exact(World.frozen?_alloc_past _ _ _ (by simp;omega)).trans ((World.frozen?_alloc_past _ _ _ (by simp)).trans (zoB _ _ _ _ rfl))
 ·exact(World.frozen?_alloc_past _ _ _ (by simp)).trans (zoB _ _ _ _ (by simp))
theorem RpAt.rn{w W d:World}{a b p:Nat}{c:List Value}(h:RpAt w W a b p c)(r:Rn p W d):RpAt w d a b p c:=
 ⟨fun k v e=>r.cell (h.c0 k v e) (by have:=h.o1;have:=h.o2;omega),r.cell h.f0 (by have:=h.o2;omega),r.cell h.f1 (by have:=h.o2;omega),fun o=>(r.frz o (by have:=h.o1;have:=h.o2;have:=h.o3;omega) (by have:=h.o1;have:=h.o2;omega)).trans (h.z0 o),fun o=>(r.frz o (by have:=h.o2;have:=h.o3;omega) (by have:=h.o2;omega)).trans (h.z1 o),(h.bel.trans (r.low (by have:=h.lo;have:=h.o1;have:=h.o2;omega) h.bel.size)),h.lo,h.o1,h.o2,zom h.o3 r.size⟩
theorem RpAt.put{w W:World}{a c p:Nat}{d:List Value}(h:RpAt w W a c p d)(k:Nat)(v:Value)(g:k<d.length):RpAt w (W.setCell ⟨a,k,none⟩ v) a c p (d.set k v):=by
 have f:∀o,(⟨a,k,none⟩:Addr)≠⟨c,o,none⟩:=fun o e=>by simp only[Addr.mk.injEq]at e;have:=h.o1;omega
 refine⟨fun j u b=>?_,(zou _ _ _ _ (f 0)).trans h.f0,(zou _ _ _ _ (f 1)).trans h.f1,fun o=>(World.frozen?_setCell _ _ _ _).trans (h.z0 o),fun o=>(World.frozen?_setCell _ _ _ _).trans (h.z1 o),h.bel.setCell (p:=⟨a,k,none⟩) h.lo _,h.lo,h.o1,h.o2,by have:=h.o3;simpa[World.setCell]using this⟩
 by_cases e:j=k
 ·subst e;rw[List.getElem?_set_self g]at b;cases b
  exact zot _ _ _ (h.c0 j _ (zoh g))
 ·rw[List.getElem?_set_ne (fun i=>e i.symm)]at b
  exact(zou _ _ _ _ (by simp only[ne_eq,Addr.mk.injEq];omega)).trans (h.c0 j u b)
@[reducible] def zput7(W:World)(b:Nat)(v1 v2 v3 v4 v5 v6 a:Value):World:=((((((W.setCell ⟨b,0,none⟩ v1).setCell ⟨b,1,none⟩ v2).setCell ⟨b,2,none⟩ v3).setCell ⟨b,3,none⟩ v4).setCell ⟨b,4,none⟩ v5).setCell ⟨b,5,none⟩ v6).setCell ⟨b,6,none⟩ a
theorem RpAt.zput7{w W:World}{b c p:Nat}(h:RpAt w W b c p nil7)(v1 v2 v3 v4 v5 v6 a:Value):RpAt w (zput7 W b v1 v2 v3 v4 v5 v6 a) b c p [v1,v2,v3,v4,v5,v6,a]:=
 ((((((h.put 0 v1 (by decide)).put 1 v2 (by simp)).put 2 v3 (by simp)).put 3 v4 (by simp)).put 4 v5 (by simp)).put 5 v6 (by simp)).put 6 a (by simp)
theorem zsZ{W:World}{b g o:Nat}{v:Value}(h:W.cell? ⟨g,o,none⟩=some v)(hb:b<g)(v1 v2 v3 v4 v5 v6 a:Value):(zput7 W b v1 v2 v3 v4 v5 v6 a).cell? ⟨g,o,none⟩=some v:=by
 have st:∀(X:World) (k:Nat) (u:Value),X.cell? ⟨g,o,none⟩=some v->(X.setCell ⟨b,k,none⟩ u).cell? ⟨g,o,none⟩=some v:=fun X k u c=>(zou _ _ _ _ (by simp only[ne_eq,Addr.mk.injEq];omega)).trans c
 exact st _ _ _ (st _ _ _ (st _ _ _ (st _ _ _ (st _ _ _ (st _ _ _ (st _ _ _ h))))))
theorem zs0(W:World){b g:Nat}(hb:b<g)(v1 v2 v3 v4 v5 v6 a:Value):(zput7 W b v1 v2 v3 v4 v5 v6 a).heap[g]?=W.heap[g]?:=by
 have st:∀(X:World) (k:Nat) (u:Value),(X.setCell ⟨b,k,none⟩ u).heap[g]?=X.heap[g]?:=fun X k u=>zop _ _ _ _ (by show g≠b;omega)
 rw[st,st,st,st,st,st,st]
theorem RpAt.gave{w W:World}{e b p:Nat}{f:List Value}(h:RpAt w W e b p f)(a c:Int)(o:Obj):∃w2,w2=((W.setCell ⟨b,0,none⟩ (.int .i64 a)).setCell ⟨b,1,none⟩ (.int .i64 c)).alloc o/\(∀(k:Nat) (v:Value),f[k]?=some v->w2.cell? ⟨e,k,none⟩=some v)/\w2.cell? ⟨b,0,none⟩=some (.int .i64 a)/\w2.cell? ⟨b,1,none⟩=some (.int .i64 c)/\Below w.heap.size w w2:=by
 have i:=h.lo;have n:=h.o1;have m:=h.o2;have l:=h.o3;have ha:∀(g k:Nat) (v:Value),((W.setCell ⟨b,0,none⟩ (.int .i64 a)).setCell ⟨b,1,none⟩ (.int .i64 c)).cell? ⟨g,k,none⟩=some v->(((W.setCell ⟨b,0,none⟩ (.int .i64 a)).setCell ⟨b,1,none⟩ (.int .i64 c)).alloc o).cell? ⟨g,k,none⟩=some v:=fun g k v d=>(zoe _ _ _ (zog _ _ d)).trans d
 refine⟨_,rfl,fun k v j=>ha _ _ _ ?_,ha _ _ _ ?_,ha _ _ _ ?_,ze ((h.bel.setCell (p:=⟨b,0,none⟩) (by show w.heap.size<=b;omega) _).setCell (p:=⟨b,1,none⟩) (by show w.heap.size<=b;omega) _)⟩
 ·exact(zou _ _ _ _ (by simp only[ne_eq,Addr.mk.injEq];omega)).trans ((zou _ _ _ _ (by simp only[ne_eq,Addr.mk.injEq];omega)).trans (h.c0 k v j))
 ·exact(zou _ _ _ _ (by simp)).trans (zot _ _ _ h.f0)
 ·exact zot _ _ _ ((zou _ _ _ _ (by simp)).trans h.f1)
theorem zu6(w:World)(a:Option Addr)(c:Nat)(zs:List Int)(hz:Has .u8 w a zs.length zs)(d:3<=zs.length)(b:zs.length<=100000)(ha:∀ad,a=some ad->ad.block<w.heap.size):Rd (w.heap.size+2) a c zs 3 (((w.alloc (.cells #[.slice none 0 0,.slice none 0 0,.slice none 0 0,.slice none 0 0,.slice none 0 0,.slice none 0 0,.slice none 0 0] 29)).alloc (.cells #[.int .i64 0,.int .i64 0] 35)).alloc (.cells #[.slice a zs.length c,.int .i64 3] 132)):=
 ⟨(zod _ _ _ _ (by simp)).trans rfl,(zod _ _ _ _ (by simp)).trans rfl,zoB _ _ _ _ (by simp),hz.alloc.alloc.alloc,d,b,fun ad h=>by have:=ha ad h;omega⟩
theorem zs1(a:Option Addr)(c:Nat)(zs:List Int)(w:World)(hz:Has .u8 w a zs.length zs)(h3:3<=zs.length)(hm:zs.length<=100000)(ha:∀ad,a=some ad->ad.block<w.heap.size):
 Calls Tryz.prog 31 #[.slice a zs.length c] w (zqB zs w):=by
 have b2:∀(fn:Fn) (first cap:Array Value) (w:World),(Instr.makeFunc fn first cap).run Tryz.prog w=.ok (.func fn first cap) w:=fun _ _ _ _=>rfl
 obtain⟨W,eW⟩:∃W,W=(((w.alloc (.cells #[.slice none 0 0,.slice none 0 0,.slice none 0 0,.slice none 0 0,.slice none 0 0,.slice none 0 0,.slice none 0 0] 29)).alloc (.cells #[.int .i64 0,.int .i64 0] 35)).alloc (.cells #[.slice a zs.length c,.int .i64 3] 132)):=⟨_,rfl⟩;obtain⟨b0,e0⟩:∃b,b=w.heap.size:=⟨_,rfl⟩;obtain⟨b1,e1⟩:∃b,b=w.heap.size+1:=⟨_,rfl⟩;obtain⟨p,ep⟩:∃b,b=w.heap.size+2:=⟨_,rfl⟩;have G:Hid (RpAt w W b0 b1 p nil7):=by rw[eW,e0,e1,ep];exact zu5 w a zs.length c
 have HR:Hid (Rd p a c zs 3 W):=by rw[eW,ep];exact zu6 w a c zs hz h3 hm ha
 have HC:=hid (zvp HR.out);have EW:=hid eW;have E0:=hid e0;have E1:=hid e1;have EP:=hid ep;clear eW e0 e1 ep hz h3 hm ha;go_enter_defers Tryz.func31,Tryz.ntmps31
 go_wp2_with fail
 rw[<-EW.out,<-EP.out,<-E1.out,<-E0.out];refine HC.out.mono ?_;rintro e L ⟨hn,Z⟩;have d:=hid (G.out.rn hn);have M:Hid (b0<W.heap.size):=by have:=G.out.o1;have:=G.out.o2;have:=G.out.o3;show b0<W.heap.size;omega
 have H:Hid (w.heap.size<=W.heap.size):=G.out.bel.size;clear HC EW E0 E1 EP G HR hn;cases P:zpq zs 3 with
 |error er=>
  obtain⟨r,t⟩:=er;rw[P]at Z;obtain rfl:=Z;obtain⟨w2,N,i,q1,q2,hb⟩:=d.out.gave r t (.cells #[.int .i64 r,.int .i64 t] 129);have Y:=i 0 _ rfl;have V:=i 1 _ rfl;have Q:=i 2 _ rfl;have X:=i 3 _ rfl;have U:=i 4 _ rfl;have R:=i 5 _ rfl;have S:=i 6 _ rfl;dsimp only;refine leaves_cons (f:=72) (args:= #[.pointer (some ⟨b1,0,none⟩)]) (by simp) (by simp[go_sem]) ?_
  refine(zre b1 r t L 0 0 d.out.f0 d.out.f1 (d.out.z1 0) (d.out.z1 1)).mono ?_;rintro e u' O ⟨rfl,rfl,rfl⟩;rw[<-N];clear i N;simp[Leaves,settle,results,Tryz.results31,go_sem, *];unfold zqB;rw[P];exact⟨hb,_,⟨none,none,none,none,none,none,none,0,0,0,0,0,0,0,rfl⟩,rfl⟩
 |ok y=>
  obtain⟨x,u⟩:=y;rw[P]at Z;obtain⟨v,rfl,hv,T⟩:=Z;have HV:=hid hv;obtain⟨B,A,D,C,E,s,F,j,q,m,o,n,k,l,rfl⟩:=hv.sl;clear hv;have h:=hid (d.out.zput7 (.slice B j j) (.slice A q q) (.slice D m m) (.slice C o o) (.slice E n n) (.slice s k k) (.slice F l l));have Y:=d.out.c0 0 _ rfl;have V:=d.out.c0 1 _ rfl;have Q:=d.out.c0 2 _ rfl;have X:=d.out.c0 3 _ rfl;have U:=d.out.c0 4 _ rfl;have R:=d.out.c0 5 _ rfl;have S:=d.out.c0 6 _ rfl;have zz:=d.out.z0;have HU:Hid (u<=zs.length/\zs.length<=100000):=⟨T.le,T.few⟩;have r1:=zsZ T.c1 (by have:=d.out.o1;have:=d.out.o2;omega:b0<p) (.slice B j j) (.slice A q q) (.slice D m m) (.slice C o o) (.slice E n n) (.slice s k k) (.slice F l l)
  have J:Hid (PlanV w x (zput7 L b0 (.slice B j j) (.slice A q q) (.slice D m m) (.slice C o o) (.slice E n n) (.slice s k k) (.slice F l l)) (.agg #[.slice B j j,.slice A q q,.slice D m m,.slice C o o,.slice E n n,.slice s k k,.slice F l l])):=(HV.out.keep fun g hg=>.inl (zs0 L (by have:=M.out;omega) (.slice B j j) (.slice A q q) (.slice D m m) (.slice C o o) (.slice E n n) (.slice s k k) (.slice F l l))).low H.out
  clear T HV d M H;obtain⟨w2,e2⟩:∃w2,w2=zput7 L b0 (.slice B j j) (.slice A q q) (.slice D m m) (.slice C o o) (.slice E n n) (.slice s k k) (.slice F l l):=⟨_,rfl⟩;rw[<-e2]at h r1 J;have K:Hid (w2=(((((((L.setCell ⟨b0,0,none⟩ (.slice B j j)).setCell ⟨b0,1,none⟩ (.slice A q q)).setCell ⟨b0,2,none⟩ (.slice D m m)).setCell ⟨b0,3,none⟩ (.slice C o o)).setCell ⟨b0,4,none⟩ (.slice E n n)).setCell ⟨b0,5,none⟩ (.slice s k k)).setCell ⟨b0,6,none⟩ (.slice F l l))):=e2;have y0:=h.out.c0 0 _ rfl;have y1:=h.out.c0 1 _ rfl;have y2:=h.out.c0 2 _ rfl;have y3:=h.out.c0 3 _ rfl;have y4:=h.out.c0 4 _ rfl;have y5:=h.out.c0 5 _ rfl;have y6:=h.out.c0 6 _ rfl;have f0:=h.out.f0;have f1:=h.out.f1;have zb:=h.out.z0;have zf:=h.out.z1;clear e2;dsimp only;go_upto_region 4 with fail
  rw[<-K.out];clear K Y V Q X U R S zz;by_cases a9:(u:Int)<(zs.length:Int)
  ·have HG:=hid (fun w=>zqS 4 (u:Int) w)
   obtain⟨w3,N,i,q1,q2,hb⟩:=h.out.gave 4 (u:Int) (.cells #[.int .i64 4,.int .i64 (u:Int)] 129);have Y:=i 0 _ rfl;have V:=i 1 _ rfl;have Q:=i 2 _ rfl;have X:=i 3 _ rfl;have U:=i 4 _ rfl;have R:=i 5 _ rfl;have S:=i 6 _ rfl;have I:=hid N;have HQ:Hid (w3.cell? ⟨b1,0,none⟩=some (.int .i64 4)/\w3.cell? ⟨b1,1,none⟩=some (.int .i64 (u:Int))):=⟨q1,q2⟩;have a8:=hid hb;clear N i q1 q2 hb;go_wp2_with fail
   refine(HG.out _).mono ?_;rintro e w4 ⟨rfl,rfl⟩;dsimp only;refine leaves_cons (f:=72) (args:= #[.pointer (some ⟨b1,0,none⟩)]) (by simp) (by simp[go_sem]) ?_
   refine(zre b1 4 (u:Int) _ 0 0 f0 f1 (zf 0) (zf 1)).mono ?_;rintro e u' O ⟨rfl,rfl,rfl⟩;rw[<-I.out];clear I;have q1:=HQ.out.1;have q2:=HQ.out.2;simp[Leaves,settle,results,Tryz.results31,go_sem,Y,V,Q,X,U,R,S,q1,q2];unfold zqB;rw[P];exact⟨a8.out,.inl ⟨by omega,_,⟨_,_,_,_,_,_,_,_,_,_,_,_,_,_,rfl⟩,rfl⟩⟩
  ·have a0:Hid (u=zs.length):=by have:=HU.out;show u=zs.length;omega
   have p0:=put_same y0;have p1:=put_same y1;have p2:=put_same y2;have p3:=put_same y3;have p4:=put_same y4;have p5:=put_same y5;have p6:=put_same y6;have g0:=put_same f0;have g1:=put_same f1;go_wp2_with fail
   refine leaves_cons (f:=72) (args:= #[.pointer (some ⟨b1,0,none⟩)]) (by simp) (by simp[go_sem]) ?_
   refine(zsl ⟨b1,0,none⟩ _).mono ?_;rintro e u' O ⟨rfl,rfl,rfl⟩;simp[Leaves,settle,results,Tryz.results31,go_sem,y0,y1,y2,y3,y4,y5,y6,f0,f1];unfold zqB;rw[P];exact⟨h.out.bel,.inr ⟨a0.out,_,J.out,rfl⟩⟩
def Tls(M:Nat){α :Type}(f:List Int->Nat->Except (Int × Int) (α × Nat))(P: α->Prop):Prop:=
 ∀(zs:List Int) (t:Nat) (x: α) (u:Nat),zs.length<=M->f zs t=.ok (x,u)->P x
theorem zpF{M:Nat}{α :Type}(f:List Int->Nat->Except (Int × Int) (α × Nat)):Tls M f (fun _=>True):=fun _ _ _ _ _ _=>trivial
theorem zqX{M:Nat}{α :Type}{f:List Int->Nat->Except (Int × Int) (α × Nat)}{P: α->Prop}(g:Tls M f P)(zs:List Int)(hz:zs.length<=M):∀(n t:Nat) (l:List α) (u:Nat),xh (f zs) n t=.ok (l,u)->l.length=n/\∀x∈l,P x
 |0,t,l,u,h=>by
  rw[xh]at h;cases h
  exact⟨rfl,fun x i=>absurd i zoA⟩
 |n+1,t,l,u,h=>by
  rw[xh]at h;cases b:f zs t with
  |error e=>rw[b]at h;cases h
  |ok y=>
   obtain⟨x,c⟩:=y;rw[b]at h;dsimp only at h;cases d:xh (f zs) n c with
   |error e=>rw[d]at h;cases h
   |ok y=>
    obtain⟨j,o⟩:=y;rw[d]at h;cases h
    obtain⟨k,m⟩:=zqX g zs hz n c j u d;refine⟨by rw[zvv,k],fun z a=>?_⟩
    rcases zoD.1 a with rfl|a
    ·exact g zs t z c hz b
    ·exact m z a
theorem zth{zs:List Int}{t n u:Nat}(h:zpl zs t=.ok (n,u)):n<=zs.length:=by
 unfold zpl at h;cases a:ke zs t with
 |error e=>rw[a]at h;cases h
 |ok y=>
  obtain⟨m,v⟩:=y;rw[a]at h;dsimp only at h;by_cases b:m<0\/(zs.length:Int)-(v:Int)<m
  ·rw[if_pos b]at h;cases h
  ·rw[if_neg b]at h;cases h
   omega
theorem zo9{M:Nat}{α :Type}{f:List Int->Nat->Except (Int × Int) (α × Nat)}{P: α->Prop}(b:Tls M f P):Tls M (fun zs t=>yz zs (f zs) t) (fun l=>l.length<=M/\∀x∈l,P x):=fun zs t l u hz h=>by
 dsimp only at h;unfold yz at h;cases a:zpl zs t with
 |error e=>rw[a]at h;cases h
 |ok y=>
  obtain⟨n,c⟩:=y;rw[a]at h;obtain⟨g,d⟩:=zqX b zs hz n c l u h;have:=zth a;exact⟨by omega,d⟩
def DeedX.few(M:Nat)(x:DeedX):Prop:=(zqx x.e).length<=M
theorem zti(M:Nat):Tls M qc (DeedX.few M):=fun zs t x u hz h=>by
 unfold qc at h;obtain⟨k,u1,i,h⟩:=kt h;by_cases d:k=1
 ·rw[if_pos d]at h;obtain⟨r,u2,a,h⟩:=kt h;obtain⟨l,u3,b,h⟩:=kt h;cases h
  have:=(zo9 (zpF zo6) zs u2 l u hz b).1;simpa[DeedX.few]using this
 rw[if_neg d]at h;by_cases f:k=2
 ·rw[if_pos f]at h;obtain⟨r,u2,a,h⟩:=kt h;cases h
  simp[DeedX.few]
 rw[if_neg f]at h;by_cases e:k=3
 ·rw[if_pos e]at h;obtain⟨r,u2,a,h⟩:=kt h;cases h
  simp[DeedX.few]
 rw[if_neg e]at h;by_cases g:k=5
 ·rw[if_pos g]at h;obtain⟨l,u2,a,h⟩:=kt h;cases h
  have:=(zo9 (zpF zo6) zs u1 l u hz a).1;simpa[DeedX.few]using this
 rw[if_neg g]at h;by_cases c:k=6
 ·rw[if_pos c]at h;obtain⟨r,u2,a,h⟩:=kt h;obtain⟨l,u3,b,h⟩:=kt h;cases h
  simp[DeedX.few]
 ·rw[if_neg c]at h;cases h
  simp[DeedX.few]
def NodeX.few(M:Nat)(x:NodeX):Prop:=(zqx x.e).length<=M
theorem ztj(M:Nat):Tls M zo7 (NodeX.few M):=fun zs t x u hz h=>by
 unfold zo7 at h;obtain⟨k,u1,f,h⟩:=kt h;obtain⟨y,u2,e,h⟩:=kt h;by_cases c:k=3
 ·rw[if_pos c]at h;obtain⟨l,u3,a,h⟩:=kt h;obtain⟨m,u4,d,h⟩:=kt h;cases h
  have:=(zo9 (zpF zo6) zs u2 l u3 hz a).1;simpa[NodeX.few]using this
 rw[if_neg c]at h;by_cases b:k=4
 ·rw[if_pos b]at h;obtain⟨l,u3,a,h⟩:=kt h;obtain⟨m,u4,d,h⟩:=kt h;cases h
  simp[NodeX.few]
 ·rw[if_neg b]at h;obtain⟨l,u3,a,h⟩:=kt h;cases h
  simp[NodeX.few]
def ActX.few(M:Nat)(x:ActX):Prop:=x.w.length<=M/\x.ops.length<=M/\∀o∈x.ops,o.few M
theorem zt7(M:Nat):Tls M zpT (ActX.few M):=fun zs t x u hz h=>by
 unfold zpT at h;obtain⟨a,u1,d,h⟩:=kt h;obtain⟨b,u2,c,h⟩:=kt h;cases h
 exact⟨(zo9 (zpF ke) zs t a u1 hz d).1,zo9 (zti M) zs u1 b u hz c⟩
def TabX.few(M:Nat)(x:TabX):Prop:=x.keys.length<=M/\x.acts.length<=M/\x.args.length<=M
theorem zt8(M:Nat):Tls M zpz (TabX.few M):=fun zs t x u hz h=>by
 unfold zpz at h;obtain⟨a,u1,m,h⟩:=kt h;obtain⟨b,u2,j,h⟩:=kt h;obtain⟨c,u3,g,h⟩:=kt h;obtain⟨d,u4,l,h⟩:=kt h;obtain⟨e,u5,k,h⟩:=kt h;obtain⟨f,u6,i,h⟩:=kt h;cases h
 exact⟨(zo9 (zpF jp) zs u1 b u2 hz j).1,(zo9 (zpF ke) zs u2 c u3 hz g).1,(zo9 (zpF zo0) zs u5 f u hz i).1⟩
def StateX.few(M:Nat)(x:StateX):Prop:=x.cs.length<=M
theorem zsI(M:Nat):Tls M zk0 (StateX.few M):=fun zs t x u hz h=>by
 unfold zk0 at h;obtain⟨d,u1,i,h⟩:=kt h;obtain⟨m,u2,a,h⟩:=kt h;obtain⟨on,u3,c,h⟩:=kt h;obtain⟨cs,u4,b,h⟩:=kt h;obtain⟨f,u5,g,h⟩:=kt h;cases h
 have e:=(zqX (zpF zph) zs hz m u3 cs u4 b).1;have:=zth a;show cs.length<=M;omega
structure PlanX.few (M : Nat) (x : PlanX) : Prop where
 hs : x.heads.length <= M /\ ∀ y ∈ x.heads, y.length <= M
 ms : x.mt.length <= M
 ss : x.states.length <= M /\ ∀ y ∈ x.states, y.few M
 al : x.acts.length <= M /\ ∀ y ∈ x.acts, y.few M
 ts : x.tabs.length <= M /\ ∀ y ∈ x.tabs, y.few M
 ns : x.nodes.length <= M /\ ∀ y ∈ x.nodes, y.few M
 os : x.out.length <= M
theorem zqY(M:Nat):Tls M zpq (PlanX.few M):=fun zs t x u hz h=>by
 unfold zpq at h;obtain⟨n,u1,q,h⟩:=kt h;obtain⟨g,u2,k,h⟩:=kt h;obtain⟨j,u3,b,h⟩:=kt h;obtain⟨i,u4,o,h⟩:=kt h;obtain⟨r,u5,l,h⟩:=kt h;obtain⟨c,u6,f,h⟩:=kt h;obtain⟨d,u7,m,h⟩:=kt h;cases h
 have a:=zo9 (zo9 (zpF ke)) zs t n u1 hz q;exact⟨⟨a.1,fun y e=>(a.2 y e).1⟩,(zo9 (zpF ke) zs u1 g u2 hz k).1,zo9 (zsI M) zs u2 j u3 hz b,zo9 (zt7 M) zs u3 i u4 hz o,zo9 (zt8 M) zs u4 r u5 hz l,zo9 (ztj M) zs u5 c u6 hz f,(zo9 (zpF ke) zs u6 d u hz m).1⟩
theorem zpZ{α β :Type}{f: α->List Int}{g: β->List Int}{k: α->β}{S:List α}(h:∀x∈S,f x=g (k x)):S.flatMap f=(S.map k).flatMap g:=by
 rw[zsH];induction S with
 |nil=>rfl
 |cons x S ih=>
  rw[zvw,zvw,h x (List.mem_cons_self ..),ih fun y a=>h y (List.mem_cons_of_mem _ a)]
theorem zrD{α :Type}{k:Nat}{P: α->World->Nat->Nat->Prop}{w:World}{s:QSl}{S:List α}(h:QRow k P w s S):∀y∈S,∃g o,P y w g o:=fun y b=>by
 obtain⟨i,hi,rfl⟩:=zoR b;obtain⟨g,off,_,a⟩:=h.2 i _ (zoh hi);exact⟨g,_,a⟩
theorem zss{d:PlanD}{w:World}(a:d.lie w):zpK d=ztg d.p:=by
 have i:d.hs.flatMap zo8=(d.hs.map HeadD.ws).flatMap xr:=zpZ fun x _=>rfl
 have l:d.ss.flatMap kg=(d.ss.map StateD.p).flatMap zrC:=zpZ fun x c=>by
  obtain⟨g,o,b⟩:=zrD a.ss x c;have e:=b.2.2.2.2.2.1;unfold kg zrC StateD.p;rw[e]
 have j:d.al.flatMap zpr=(d.al.map ActD.p).flatMap ztd:=zpZ fun x c=>by
  obtain⟨g,o,b⟩:=zrD a.al x c;have e:=b.2.2.2.1;unfold zpr ztd ActD.p;rw[zoE,e,zpZ (f:=opL) (g:=zvc) (k:=OpD.p) fun y _=>rfl]
 have h:d.ts.flatMap zpB=(d.ts.map TabD.p).flatMap zte:=zpZ fun x c=>by
  obtain⟨g,o,b⟩:=zrD a.ts x c;have e:=b.2.2.2.2.2.2.1.1;unfold zpB zte TabD.p;rw[e]
 have m:d.ns.flatMap zpg=(d.ns.map NodeD.p).flatMap ztf:=zpZ fun x _=>rfl
 unfold zpK ztg PlanD.p;rw[i,l,j,h,m,zoE,zoE,zoE,zoE,zoE,a.hs.1,a.ss.1,a.al.1,a.ts.1,a.ns.1]
theorem zq4{w:World}{a:Option Addr}{n c:Nat}{d:List Int}(h:Has .u8 w a n d)(e:0<n):(convert 30 9 (.slice a n c)).run Tryz.prog w=.ok (.string (strOfNums d)) w:=by
 obtain⟨b,off,rfl,_,f⟩:=h.some e;exact run_convert_bytes_arg w 30 5 Tryz.underlying30 Tryz.underlying5 b off n c d h.1 f 9 Tryz.underlying9
theorem zup{a b:List Int}(k:Mth.Byt a)(g:Mth.Byt b)(h:strOfNums a=strOfNums b):a=b:=by
 have e:a.map (fun n=>UInt8.ofNat n.toNat)=b.map (fun n=>UInt8.ofNat n.toNat):=by
  rw[<-strOfNums_data a,<-strOfNums_data b,h]
 have j:a.length=b.length:=by simpa using congrArg List.length e
 refine List.ext_getElem j fun i hi c=>?_
 have d:(a.map (fun n=>UInt8.ofNat n.toNat))[i]?=(b.map (fun n=>UInt8.ofNat n.toNat))[i]?:=by rw[e]
 simp only[zoy,zoh hi,zoh c,Option.map_some,zoo]at d;have f:=congrArg UInt8.toNat d;have m:=k _ (List.getElem_mem hi);have l:=g _ (List.getElem_mem c);simp only[UInt8.toNat_ofNat']at f;omega
theorem ztE{a b:List Int}(f:Mth.Byt a)(d:Mth.Byt b):((strOfNums a).toList==(strOfNums b).toList)=decide (a=b):=by
 by_cases e:a=b
 ·subst e;simp
 ·rw[zoX e,beq_eq_false_iff_ne];intro h;rw[ByteArray.toList_eq,ByteArray.toList_eq]at h;refine e (zup f d ?_);have c:(strOfNums a).data=(strOfNums b).data:=Array.toList_inj.1 h;unfold strOfNums at c ⊢;rw[ByteArray.mk.injEq];exact c
theorem zsP(a g:Option Addr)(n d c j:Nat)(h i:List Int)(w:World)(f:Has .u8 w a n h)(b:Has .u8 w g d i)(k:0<n)(l:0<d):
 Calls Tryz.prog 71 #[.slice a n c,.slice g d j] w fun e w'=>e=.returned (.bool (decide (h=i)))/\w'=w:=by
 have o:=zq4 (c:=c) f k;have m:=zq4 (c:=j) b l;have e:=ztE (zqH f) (zqH b);clear f b;go_enter Tryz.func71,Tryz.ntmps71
 go_wp2;go_ret;exact⟨by rw[<-e];rfl,rfl⟩
def zo1(zs:List Int):Int × Int:=
 if zs.length<7 then(3,(zs.length:Int))else if 8000<zs.length then(14,8000)else if zs.take 3≠[83,89,1]then(4,0)else if zs.drop (zs.length-4)≠Mth.four (Mth.crc (zs.take (zs.length-4)))then(19,((zs.length-4:Nat):Int))else(0,0)
theorem zqn{w:World}{a:Option Addr}{n:Nat}{zs:List Int}(h:Has .u8 w a n zs)(k:Nat)(f:k<=n):Has .u8 w a k (zs.take k):=by
 refine⟨by rw[List.length_take,h.1];omega,fun x c=>h.2.1 x (List.mem_of_mem_take c),?_⟩
 rcases h.2.2 with e|⟨b,off,e,hb,d⟩
 ·exact .inl (by rw[e];simp)
 ·refine .inr ⟨b,off,e,hb,fun i hi=>?_⟩
  rw[d i (by omega)]
  simp only[zoi,List.getElem?_take_of_lt hi]
theorem zsQ{w:World}{b off n:Nat}{zs:List Int}(h:zs.length=n)(hw:∀x∈zs,(Lit.int .u8 x).wf=true)(hb:b<w.heap.size)(c:∀i,i<n->w.cell? ⟨b,off+i,none⟩=some (.int .u8 (zs.getD i 0)))(k m:Nat)(d:k+m=n):Has .u8 w (some ⟨b,off+k,none⟩) m (zs.drop k):=by
 refine⟨by rw[List.length_drop,h];omega,fun x a=>hw x (List.mem_of_mem_drop a),.inr ⟨b,off+k,rfl,hb,fun i hi=>?_⟩⟩
 rw[show off+k+i=off+(k+i)by omega,c (k+i) (by omega)]
 simp only[zoi,List.getElem?_drop]
theorem zuq(zs:List Int)(hz:Mth.Byt zs):((strOfNums zs).toList==[83,89,1])=decide (zs=[83,89,1]):=by
 have h:(strOfNums [83,89,1]).toList=[83,89,1]:=by rw[ByteArray.toList_eq];rfl
 rw[<-h];exact ztE hz (by intro x a;simp only[zoD,zoA,or_false]at a;rcases a with rfl|rfl|rfl<;>decide)
def zqo(w:World)(zs:List Int)(e:Ending)(w':World):Prop:=e=.returned (.agg #[.int .i64 (zo1 zs).1,.int .i64 (zo1 zs).2])/\Below w.heap.size w w'
theorem zru(a:Option Addr)(n c:Nat)(zs:List Int)(w:World)(Z:n<=10000000)(r:n<=c)(hz:Has .u8 w a n zs):
 Calls Tryz.prog 30 #[.slice a n c] w (zqo w zs):=by
 have u:=hz.1;have H:Hid (∀o,Below w.heap.size w (w.alloc o)):=fun o=>ze (zof _ _)
 have g:∀X:Int × Int,zo1 zs=X->Hid (∀w',Below w.heap.size w w'->zqo w zs (.returned (.agg #[.int .i64 X.1,.int .i64 X.2])) w'):=fun X e w' h=>⟨by rw[e],h⟩
 by_cases V:n<7
 ·have l:=g (3,(n:Int)) (by unfold zo1;rw[if_pos (by omega),u])
  have E:(n:Int)<7:=by omega
  clear g hz u r;go_enter Tryz.func30,Tryz.ntmps30
  go_wp2;exact bodyPost_ret (v:=.agg #[.int .i64 3,.int .i64 (n:Int)]) (by simp[results,Tryz.results30,go_sem]) rfl (l.out _ (H.out _))
 have E:¬(n:Int)<7:=by omega
 by_cases h8:8000<n
 ·have l:=g (14,8000) (by unfold zo1;rw[if_neg (by omega),if_pos (by omega)])
  have A:(8000:Int)<(n:Int):=by omega
  clear g hz u r;go_enter Tryz.func30,Tryz.ntmps30
  go_wp2;exact bodyPost_ret (v:=.agg #[.int .i64 14,.int .i64 8000]) (by simp[results,Tryz.results30,go_sem]) rfl (l.out _ (H.out _))
 have A:¬(8000:Int)<(n:Int):=by omega
 obtain⟨b,off,rfl,s,d⟩:=hz.some (by omega)
 have q:=zqn hz 3 (by omega)
 have r3:∀o U,(convert 30 9 (.slice (some ⟨b,off,none⟩) 3 U)).run Tryz.prog (w.alloc o)=.ok (.string (strOfNums (zs.take 3))) (w.alloc o):=fun o U=>zq4 (q.alloc (o:=o)) (by decide)
 have P:=zuq (zs.take 3) (fun x W=>zqH hz x (List.mem_of_mem_take W))
 by_cases t:zs.take 3=[83,89,1]
 ·rw[zoY t]at P;obtain⟨m,rfl⟩:∃m,n=m+4:=⟨n-4,by omega⟩
  have C:zs.length-4=m:=by omega
  have R:¬(m:Int)+4<7:=by omega
  have Q:¬(8000:Int)<(m:Int)+4:=by omega
  have B:(3:Int)<=(c:Int):=by omega
  have M:¬c=m:=by omega
  have K:(m:Int)<=(c:Int):=by omega
  have L:(m:Int)<=(m:Int)+4:=by omega
  have T:Hid (∀w',Below w.heap.size w w'->Calls Tryz.prog 20 #[.slice (some ⟨b,off,none⟩) m c] w' (zqU w' (zs.take m))):=fun w' h=>zqC _ m c _ w' (by omega) ((zqn hz m (by omega)).step h)
  have O:Hid (∀w' F c6,Below w.heap.size w w'->Has .u8 w' F 4 (Mth.four (Mth.crc (zs.take m)))->Calls Tryz.prog 71 #[.slice (some ⟨b,off+m,none⟩) 4 (c-m),.slice F 4 c6] w' fun e N=>e=.returned (.bool (decide (zs.drop m=Mth.four (Mth.crc (zs.take m)))))/\N=w'):=fun w' F c6 h Y=>zsP _ _ 4 4 _ _ _ _ w' ((zsQ u hz.2.1 s d m 4 rfl).step h) Y (by decide) (by decide)
  have G:Hid (zo1 zs=if zs.drop m=Mth.four (Mth.crc (zs.take m))then(0,0)else(19,(m:Int))):=by
   show _=_;unfold zo1;rw[if_neg (by omega),if_neg (by omega),if_neg (fun h=>h t),C]
   by_cases I:zs.drop m=Mth.four (Mth.crc (zs.take m))
   ·rw[if_pos I,if_neg (fun h=>h I)]
   ·rw[if_neg I,if_pos I]
  obtain⟨D,hD⟩:∃D,D=decide (zs.drop m=Mth.four (Mth.crc (zs.take m))):=⟨_,rfl⟩;rw[<-hD]at O;have i:=hid hD;clear hD;have j:Hid (∀o,Below w.heap.size w (w.alloc o).drew):=fun o=>(ze (zof _ _)).drew
  have S:Hid (∀o,(w.alloc o).drew.heap.size=w.heap.size+1):=fun o=>by simp
  have fz:∀w':World,Below (w.heap.size+1) ((w.alloc (.cells #[.int .i64 0,.int .i64 0] 35)).drew) w'->w'.cell? ⟨w.heap.size,0,none⟩=some (.int .i64 0)/\w'.cell? ⟨w.heap.size,1,none⟩=some (.int .i64 0)/\w'.frozen? ⟨w.heap.size,0,none⟩=false/\w'.frozen? ⟨w.heap.size,1,none⟩=false:=fun w' h=>⟨(h.cell (p:=⟨w.heap.size,0,none⟩) (zoF _)).trans ((zod _ _ _ _ rfl).trans rfl),(h.cell (p:=⟨w.heap.size,1,none⟩) (zoF _)).trans ((zod _ _ _ _ rfl).trans rfl),(h.frozen (p:=⟨w.heap.size,0,none⟩) (zoF _)).trans (zoB _ _ _ _ rfl),(h.frozen (p:=⟨w.heap.size,1,none⟩) (zoF _)).trans (zoB _ _ _ _ rfl)⟩
  have FZ:=hid fz;clear hz u d s t q C V E h8 A Z r fz;go_enter Tryz.func30,Tryz.ntmps30
  go_wp2_with fail
  go_region_with (first
   |(go_at_call 20;refine(T.out _ (j.out _)).mono ?_;rintro e w6 ⟨F,c6,rfl,y,k⟩)
   |(go_at_call 71;refine(O.out _ _ _ (zh (j.out _) k) y).mono ?_;rintro e w7 ⟨rfl,rfl⟩))
  all_goals
   have f:=k;rw[S.out]at f;obtain⟨y0,y1,z0,z1⟩:=FZ.out _ f;have l:=hid (zh (j.out _) k);clear T O j S FZ y k f H;clear P r3 R Q B M K L;cases D with
   |true=>
    have J:=g (0,0) (by rw[G.out,if_pos (of_decide_eq_true i.out.symm)])
    clear g G i;go_wp2;exact bodyPost_ret (v:=.agg #[.int .i64 0,.int .i64 0]) (by simp[results,Tryz.results30,go_sem, *]) rfl (J.out _ ((l.out.setCell (p:=⟨w.heap.size,0,none⟩) (zos _) _).setCell (p:=⟨w.heap.size,1,none⟩) (zos _) _))
   |false=>
    have J:=g (19,(m:Int)) (by rw[G.out,if_neg (of_decide_eq_false i.out.symm)])
    clear g G i;go_wp2;exact bodyPost_ret (v:=.agg #[.int .i64 19,.int .i64 (m:Int)]) (by simp[results,Tryz.results30,go_sem, *]) rfl (J.out _ ((l.out.setCell (p:=⟨w.heap.size,0,none⟩) (zos _) _).setCell (p:=⟨w.heap.size,1,none⟩) (zos _) _))
 ·have l:=g (4,0) (by unfold zo1;rw[if_neg (by omega),if_neg (by omega),if_pos t])
  rw[zoX t]at P;have B:(3:Int)<=(c:Int):=by omega
  clear g hz u d s t q;go_enter Tryz.func30,Tryz.ntmps30
  go_wp2;exact bodyPost_ret (v:=.agg #[.int .i64 4,.int .i64 0]) (by simp[results,Tryz.results30,go_sem]) rfl (l.out _ (H.out _))
theorem zfY(a:Option Addr)(m c:Nat)(ws:List Int)(w:World)(hw:Has .i64 w a m ws):
 Calls Tryz.prog 22 #[HD a m c] w fun e w'=>∃x y,e=.returned (.tuple #[.int .i64 x,.agg #[.int .i64 (yJ ws),.int .i64 y]])/\Below w.heap.size w w':=by
 have o:=hw.1;by_cases r:(m:Int)<1\/8<(m:Int)
 ·have e:yJ ws=2:=by unfold yJ;rw[if_pos (by omega)]
  rw[e];exact(zgh a m c w r).mono fun _ _ ⟨j,g⟩=>⟨0,-1,j,g⟩
 have n:¬(ws.length<1\/8<ws.length):=by omega
 rcases zcg (Mth.Fit ws) m with b|⟨i,hi,d,f⟩
 ·have e:yJ ws=if Mth.off ws m%8=0/\Mth.off ws m<=256 then 0 else 6:=by
   unfold yJ;rw[if_neg n,o,if_pos b]
  rw[e];refine(zdH a m c ws w (by omega) (by omega) hw b).mono fun q w' ⟨x,j,g,l⟩=>?_
  by_cases k:Mth.off ws m%8=0/\Mth.off ws m<=256
  ·rw[if_pos k];exact⟨_,_,by rw[j,g.1 k],l⟩
  ·rw[if_neg k];exact⟨_,_,by rw[j,g.2 k],l⟩
 ·have e:yJ ws=6:=by
   unfold yJ;rw[if_neg n,if_neg (fun h=>d (h i (by omega)))]
  rw[e];exact(zfh a m c i ws w (by omega) (by omega) hw hi f d).mono fun _ _ ⟨j,g⟩=>⟨0,i,j,g⟩
theorem zag{d:PlanD}{cs:Nat->Nat->Int}{k:Nat}(h:yE d cs k):∀j,j<zM d k->cs k j=0:=by
 obtain⟨A,h⟩:=h;rcases h with⟨_,h,_⟩|⟨_,⟨n,_,a,_,h,_⟩|⟨h,_,_⟩⟩
 ·cases h
 ·exact absurd h.symm a
 ·exact h
theorem jH{d:PlanD}{cs:Nat->Nat->Int}{k:Nat}(a:k<7)(b:∀j,j<k->yE d cs j)(h:(zM d k:Int)<zS k\/yh k<(zM d k:Int)):jG d cs 2 (-((k:Int)+1)):=
 .inl ⟨k,a,.inl ⟨h,rfl,rfl⟩,by decide,b⟩
theorem znJ{d:PlanD}{cs:Nat->Nat->Int}{k n:Nat}{C:Int}(e:k<7)(c:∀j,j<k->yE d cs j)(h:¬((zM d k:Int)<zS k\/yh k<(zM d k:Int)))(f:n<zM d k)(hz:∀j,j<n->cs k j=0)(b:cs k n=C)(a:C≠0):jG d cs C (1000*((k:Int)+1)+n):=
 .inl ⟨k,e,.inr ⟨h,.inl ⟨n,f,by rw[b];exact a,hz,b.symm,rfl⟩⟩,a,c⟩
theorem qy{d:PlanD}{cs:Nat->Nat->Int}{k:Nat}(a:∀j,j<k->yE d cs j)(h:¬((zM d k:Int)<zS k\/yh k<(zM d k:Int)))(hz:∀j,j<zM d k->cs k j=0):∀j,j<k+1->yE d cs j:=by
 intro j b;by_cases e:j=k
 ·subst e;exact⟨0,.inr ⟨h,.inr ⟨hz,rfl,rfl⟩⟩⟩
 ·exact a j (by omega)
theorem kC{c:Nat->Int}{k:Nat}(h:∀j,j<k->c j=0)(a:c k=0):∀j,j<k+1->c j=0:=by
 intro j b;by_cases e:j=k
 ·rw[e];exact a
 ·exact h j (by omega)
theorem zj9{x:Int}(h:xC x=0):1<=x/\x<=48:=by
 unfold xC at h;split at h
 ·cases h
 ·omega
theorem zka{ws:List Int}(h:yJ ws=0):∀x∈ws,1<=x/\x<=48:=by
 intro x a;unfold yJ at h;split at h
 ·cases h
 split at h
 ·rename_i _ hf
  obtain⟨i,hi,rfl⟩:=zoR a;have:=hf i hi;unfold Mth.Fit at this;rw[zoi,zoh hi,zoC]at this;omega
 ·cases h
theorem zfZ{l:List Int}(h:zn l=0):∀x∈l,x=0:=by
 induction l with
 |nil=>intro x a;cases a
 |cons y l ih=>
  unfold zn at h;split at h
  ·rename_i hy
   exact absurd h hy
  ·rename_i hy
   intro x a;rcases zoD.1 a with rfl|a
   ·omega
   ·exact ih h x a
theorem zeQ{d:PlanD}{w:World}(k:d.lie w)(h:∀j,j<2->yE d (zO d.p) j)(r:RefD):0<=d.p.width r []/\d.p.width r []<=48:=by
 have l:=zag (h 0 (by decide))
 have o:=zag (h 1 (by decide))
 have c:∀x∈d.p.fields r.h [],0<=x/\x<=48:=by
  intro x a;unfold PPlan.fields at a;split at a
  ·obtain⟨i,hi,rfl⟩:=zoR a;have b:i<d.ms.length:=hi;have:=o i (by show i<d.mta.n;rw[<-k.ms.1];exact b)
   have e:zO d.p 1 i=xC (d.p.ms.getD i 0):=rfl;rw[e,zoi,zoh hi,zoC]at this;have:=zj9 this;omega
  split at a
  ·cases a
  split at a
  ·simp only[zoD,zoA,or_false]at a;omega
  split at a
  ·cases a
  ·rename_i hh
   have m:r.h.toNat<d.heads.n:=by
    have:d.p.hs.length=d.heads.n:=by simp[PlanD.p,k.hs.1]
    omega
   have:=l r.h.toNat m;have e:zO d.p 0 r.h.toNat=yJ (d.p.hs.getD r.h.toNat []):=rfl;rw[e]at this;have:=zka this x a;omega
 unfold PPlan.width;split
 ·omega
 ·rename_i hh
  have g:r.f.toNat<(d.p.fields r.h []).length:=by omega
  rw[zoi,zoh g,zoC];exact c _ (List.getElem_mem g)
theorem zkb{d:PlanD}{w:World}(f:d.lie w)(h:yE d (zO d.p) 3):∀x∈d.al,∀y∈x.ws,1<=y/\y<=64:=by
 intro x g y b;obtain⟨i,hi,rfl⟩:=zoR g;have a:i<d.acts.n:=by rw[<-f.al.1];exact hi
 have:=zag h i a;have e:zO d.p 3 i=ki d.p (d.al[i]).p:=by
  show ki d.p (d.p.al.getD i PAct.z)=_;rw[show d.p.al.getD i PAct.z=(d.al[i]).p from yY (zoh hi) _]
 rw[e]at this;unfold ki at this;split at this
 ·cases this
 ·unfold or2 at this;split at this
  ·rename_i hne
   exact absurd this hne
  ·rename_i hz
   have c:zn ((d.al[i]).p.ws.map xC)=0:=by omega
   have:=zj9 (zfZ c (xC y) (zoJ.2 ⟨y,b,rfl⟩));omega
end Go.Proofs.YtbmcgbmegcpgnaaGreat
