import Derived.Test.YtbmcgbmegcpgnaaGreatG16
import Derived.Test.YtbmcgbmegcpgnaaGreatG7
import Derived.Test.YtbmcgbmegcpgnaaGreatG17
import Derived.Test.YtbmcgbmegcpgnaaGreatVQForm
import Derived.Test.YtbmcgbmegcpgnaaGreatG9
set_option maxHeartbeats 16000000
set_option maxRecDepth 20000
set_option linter.unusedSimpArgs false
namespace Go.Proofs.YtbmcgbmegcpgnaaGreat
open Go.RowKit
def PV(B:Nat)(X:PlanX)(v:Value)(w:World):Prop:=∃d:PlanD,v=d.v/\d.lie (mask (fun b=>b<B) (fun _=>Classical.propDecidable _) w)/\d.nil0/\d.p=zp0 X
structure HiX (B x : Nat) (w w' : World) : Prop where
 os : w'.os = w.os
 tape : w'.tape = w.tape
 output : w'.output = w.output
 size : w.heap.size <= w'.heap.size
 blk : ∀ k, B <= k -> k ≠ x -> k < w.heap.size -> w'.heap[k]? = w.heap[k]?
theorem HiX.refl(B x:Nat)(w:World):HiX B x w w:=⟨rfl,rfl,rfl,zos _,fun _ _ _ _=>rfl⟩
theorem HiX.hi{B x C:Nat}{w c w2:World}(h:HiX B x w c)(k:Hi C c w2)(e:C<=B):HiX B x w w2:=⟨k.os.trans h.os,k.tape.trans h.tape,k.output.trans h.output,zoz h.size k.size,fun i b d a=>(k.blk i (zoz e b) (zom a h.size)).trans (h.blk i b d a)⟩
theorem HiX.far{B x C:Nat}{w a w2:World}(h:HiX B x w a)(b:Below C a w2)(f:w.heap.size<=C):HiX B x w w2:=⟨b.os.trans h.os,b.tape.trans h.tape,b.output.trans h.output,zoz h.size b.size,fun k e d c=>(b.block k (by omega)).trans (h.blk k e d c)⟩
theorem HiX.put{B x:Nat}{w b:World}(h:HiX B x w b)(o:Nat)(v:Value):HiX B x w (b.setCell ⟨x,o,none⟩ v):=⟨h.os,h.tape,h.output,by simpa[World.setCell]using h.size,fun k d a c=>(zop _ _ _ _ a).trans (h.blk k d a c)⟩
theorem HiX.low{B x:Nat}{w w':World}(h:HiX B x w w'):Below (mask (fun b=>b<B\/b=x) (fun _=>Classical.propDecidable _) w).heap.size (mask (fun b=>b<B\/b=x) (fun _=>Classical.propDecidable _) w) (mask (fun b=>b<B\/b=x) (fun _=>Classical.propDecidable _) w'):=
 yT h.os h.tape h.output h.size (fun _ h=>h) fun k a hF=>⟨hF,h.blk k (Nat.le_of_not_lt fun h=>hF (.inl h)) (fun h=>hF (.inr h)) a⟩
theorem HiX.new(B:Nat)(w:World)(o:Obj):Below (mask (fun b=>b<B) (fun _=>Classical.propDecidable _) w).heap.size (mask (fun b=>b<B) (fun _=>Classical.propDecidable _) w) (mask (fun b=>b<B\/b=w.heap.size) (fun _=>Classical.propDecidable _) (w.alloc o)):=
 yT rfl rfl rfl (by simp) (fun _ h=>.inl h) fun k a hF=>⟨fun h=>h.elim hF (fun h=>by omega),Below.heap_alloc _ _ _ a⟩
theorem zvh{p:Nat}{a:Option Addr}{c:Nat}{zs:List Int}{s:Except (Int × Int) Nat}{w:World}(h:Tk p a c zs s w):
 Calls Tryz.prog 32 #[.pointer (some ⟨p,0,none⟩)] w (TD p a c zs s (zpq zs) (PV w.heap.size) w):=by
 obtain⟨W0,eW0⟩:∃W,W=w.alloc (.cells #[.slice none 0 0,.slice none 0 0,.slice none 0 0,.slice none 0 0,.slice none 0 0,.slice none 0 0,.slice none 0 0] 29):=⟨_,rfl⟩;obtain⟨W1,eW1⟩:∃W,W=W0.alloc (.cells #[.slice none 0 0,.slice none 0 0,.slice none 0 0,.slice none 0 0,.slice none 0 0,.slice none 0 0,.slice none 0 0] 29):=⟨_,rfl⟩;obtain⟨rb,erb⟩:∃b,b=w.heap.size:=⟨_,rfl⟩;obtain⟨bx,ebx⟩:∃b,b=w.heap.size+1:=⟨_,rfl⟩;have R0:TSt p a c zs 29 rb w s [.slice none 0 0,.slice none 0 0,.slice none 0 0,.slice none 0 0,.slice none 0 0,.slice none 0 0,.slice none 0 0] W0:=by rw[eW0,erb];exact TSt.start h (Rn.refl _ _) _ _
 have S0:Hid (TS2 p a c zs 29 rb bx w s [.slice none 0 0,.slice none 0 0,.slice none 0 0,.slice none 0 0,.slice none 0 0,.slice none 0 0,.slice none 0 0] [.slice none 0 0,.slice none 0 0,.slice none 0 0,.slice none 0 0,.slice none 0 0,.slice none 0 0,.slice none 0 0] W1):=by
  have e:bx=W0.heap.size:=by rw[eW0,ebx];simp
  rw[eW1,e];exact TS2.start R0 _
 have EW:Hid (W1=(w.alloc (.cells #[.slice none 0 0,.slice none 0 0,.slice none 0 0,.slice none 0 0,.slice none 0 0,.slice none 0 0,.slice none 0 0] 29)).alloc (.cells #[.slice none 0 0,.slice none 0 0,.slice none 0 0,.slice none 0 0,.slice none 0 0,.slice none 0 0,.slice none 0 0] 29)):=by show W1=_;rw[eW1,eW0]
 have EB:=hid ebx;have ER:=hid erb;obtain⟨B0,eB0⟩:∃B,B=W1.heap.size:=⟨_,rfl⟩;have m:Hid (p<B0/\rb<B0/\bx<B0):=⟨by rw[eB0];exact S0.out.st.tk.lt,by rw[eB0];exact S0.out.st.box.lt,by rw[eB0];exact S0.out.box.lt⟩
 have c8:Hid (w.heap.size<=B0):=by show _<=B0;rw[eB0];exact S0.out.st.rn.size
 have U:Hid (B0<=W1.heap.size):=by show B0<=_;rw[eB0];exact zos _
 clear h eW0 eW1 erb ebx R0 eB0;go_enter Tryz.func32,Tryz.ntmps32
 have R:=hid (zp1 S0.out.st.tk);go_wp2_with fail
 rw[<-EW.out,<-EB.out,<-ER.out];clear EW EB ER;refine R.out.mono ?_;rintro e w1 ⟨_,m1,s1,rfl,⟨rfl,hm⟩,D,N,hs⟩;have M1:=hid (Sim.cntL (Sim.refl s (zpq zs)) hs);have j5:m1<=100000:=zoz hm N.few;have T1:=hid (S0.out.read D N);have U:Hid (B0<=w1.heap.size):=zoz U.out D.size;clear R D N hs hm;obtain⟨WL1,eWL⟩:∃W,W=w1:=⟨_,rfl⟩;obtain⟨C,eC⟩:∃C,C=w1.heap.size:=⟨_,rfl⟩;have M:Hid (p<C/\rb<C/\bx<C/\B0<=C/\w1.heap.size<=C/\C<=w1.heap.size):=by have h1:=m.out;have h2:=U.out;show _/\_;omega
 have a6:Hid (RowS kHead 53 C [] ⟨none,0,0⟩ w1):=RowS.nil _ _ M.out.2.2.2.2.2;have a5:=hid (Sim.loop0 s1 (yz zs (ke zs)) m1);have a8:Hid (Hi B0 WL1 w1):=by rw[eWL];exact Hi.refl _ _
 clear eC;rw[<-eWL]at M U;clear eWL;go_wp2;go_loopw [5] (fun q wr=>∃(i:Nat) (X:List (List Int)) (S:List _) (sl:QSl) (s2:Except (Int × Int) Nat),q=.int .i64 i/\Hid (i<=m1/\X.length=i)/\Hid (RowS kHead 53 C S sl wr)/\Hid (S.map HeadD.ws=X.map id)/\Hid (TS2 p a c zs 29 rb bx w s2 [.slice none 0 0,.slice none 0 0,.slice none 0 0,.slice none 0 0,.slice none 0 0,.slice none 0 0,.slice none 0 0] [.slice sl.a sl.n sl.c,.slice none 0 0,.slice none 0 0,.slice none 0 0,.slice none 0 0,.slice none 0 0,.slice none 0 0] wr)/\Hid (Hi B0 WL1 wr)/\Hid (Sim s1 (fun t=>xh (yz zs (ke zs)) m1 t) s2 fun t=>y7 (xk X (xh (yz zs (ke zs)) (m1-i) t)) fun l u=>.ok (l,u))) (fun q _=>m1-(intOf q).toNat)
 case atStart=>exact⟨0,[],[],⟨none,0,0⟩,s1,rfl,⟨zon _,rfl⟩,a6,rfl,T1,a8,a5⟩
 case round=>
  clear a6 a8 a5 T1;obtain⟨i,X,S,sl,s2,rfl,HI,P,E,T,Q,HM⟩:=hrel;have HO:=hid (tok T.out.st.tk);go_upto_region 4 with fail
  go_cut [21]from 15 to 21 (fun v wc=>v=.bool (decide (i<m1)&&okE s2)/\wr=wc)
  case first=>
   by_cases F:i<m1
   ·have c3:(i:Int)<(m1:Int):=by omega
    go_wp2_with fail
    refine HO.out.mono ?_;rintro e w2 ⟨rfl,rfl⟩;go_wp2_with fail
    go_meet
    exact⟨by simp[F],rfl⟩
   ·have c3:¬(i:Int)<(m1:Int):=by omega
    go_wp2_with fail
    go_meet
    exact⟨by simp[F],rfl⟩
  case rest=>
   obtain⟨rfl,rfl⟩:=hcut;clear HO;cases I:(decide (i<m1)&&okE s2)
   ·have L:=zpy I;have e4:=hid (Sim.next M1.out (HM.out.done L));have U:Hid (B0<=wr.heap.size):=zoz U.out Q.out.size;obtain⟨q1r,eq1r⟩:∃q,q=sl:=⟨_,rfl⟩;obtain⟨L1r,eL1r⟩:∃l,l=S:=⟨_,rfl⟩;obtain⟨x1r,ex1r⟩:∃l,l=X:=⟨_,rfl⟩;obtain⟨sx,esx⟩:∃x,x=s2:=⟨_,rfl⟩;rw[<-eq1r]at T P;rw[<-eL1r]at P E;rw[<-ex1r]at E e4;rw[<-esx]at T e4;have H:=hid (QRow.cov P.out.fin.1 (Kd.covs kHead) (qq wr M.out.2.2.2.1));have f1:=hid P.out.fin.2;have g6:=E;have e7:=T;clear P HM HI Q T E L I M eq1r eL1r ex1r esx;have R:=hid (zrV e7.out.st.tk);go_wp2_with fail
    refine R.out.mono ?_;rintro e w2 ⟨_,x2,s2,rfl,⟨q2,L2,rfl,h9,g4,g2,f8⟩,D,N,hs⟩;have M2:=hid (Sim.next e4.out hs);have T2:=hid (e7.out.read D N);have H:=hid (H.out.step (Kd.keeps kHead) (Hi.low (Hi.rn D m.out.1) (zos _)));have Q2:=hid (QRow.cov (h9) (Kd.covs kInt) (qq w2 U.out));have N2:=hid (And.intro g4 g2);have P2:=hid f8;have U:Hid (B0<=w2.heap.size):=zoz U.out D.size;clear h9 g4 g2 f8;clear R D N hs e7;have b1:=T2.out.box.cell (i:=1) rfl;have z1:=T2.out.box.fz 1;have l0:=T2.out.box.lt;obtain⟨V2,eV⟩:∃W,W=(w2.setCell ⟨bx,1,none⟩ (.slice q2.a q2.n q2.c)):=⟨_,rfl⟩;have S2:Hid (TS2 p a c zs 29 rb bx w s2 [.slice none 0 0,.slice none 0 0,.slice none 0 0,.slice none 0 0,.slice none 0 0,.slice none 0 0,.slice none 0 0] [.slice q1r.a q1r.n q1r.c,.slice q2.a q2.n q2.c,.slice none 0 0,.slice none 0 0,.slice none 0 0,.slice none 0 0,.slice none 0 0] V2):=by rw[eV];exact(T2.out.put 1 (.slice q2.a q2.n q2.c))
    have EV:=hid eV;have H:=hid (H.out.step (Kd.keeps kHead) (Hi.low (by rw[eV];exact((Hi.refl B0 w2).put m.out.2.2 1 (.slice q2.a q2.n q2.c)):Hi B0 w2 V2) (zos _)))
    have Q2:=hid (Q2.out.step (Kd.keeps kInt) (Hi.low (by rw[eV];exact((Hi.refl B0 w2).put m.out.2.2 1 (.slice q2.a q2.n q2.c)):Hi B0 w2 V2) (zos _)))
    have U:Hid (B0<=V2.heap.size):=by show B0<=_;rw[eV];simpa[World.setCell]using U.out
    clear eV T2;have R:=hid (zp1 S2.out.st.tk);go_wp2_with fail
    rw[<-EV.out];clear EV b1 z1 l0;refine R.out.mono ?_;rintro e w3 ⟨_,m3,s3,rfl,⟨rfl,hm⟩,D,N,hs⟩;have M3:=hid (Sim.cntL M2.out hs);have j1:m3<=100000:=zoz hm N.few;have T3:=hid (S2.out.read D N);have H:=hid (H.out.step (Kd.keeps kHead) (Hi.low (Hi.rn D m.out.1) (zos _)));have Q2:=hid (Q2.out.step (Kd.keeps kInt) (Hi.low (Hi.rn D m.out.1) (zos _)));have U:Hid (B0<=w3.heap.size):=zoz U.out D.size;clear R D N hs hm;obtain⟨WL3,eWL⟩:∃W,W=w3:=⟨_,rfl⟩;obtain⟨C,eC⟩:∃C,C=w3.heap.size:=⟨_,rfl⟩;have M:Hid (p<C/\rb<C/\bx<C/\B0<=C/\w3.heap.size<=C/\C<=w3.heap.size):=by have h1:=m.out;have h2:=U.out;show _/\_;omega
    have a6:Hid (RowS kState 51 C [] ⟨none,0,0⟩ w3):=RowS.nil _ _ M.out.2.2.2.2.2;have a5:=hid (Sim.loop0 s3 (zk0 zs) m3);have a8:Hid (Hi B0 WL3 w3):=by rw[eWL];exact Hi.refl _ _
    clear eC;rw[<-eWL]at H;rw[<-eWL]at Q2;rw[<-eWL]at M U;clear eWL;go_wp2;go_loopw [6] (fun q wr=>∃(i:Nat) (X:List (StateX)) (S:List _) (sl:QSl) (s2:Except (Int × Int) Nat),q=.int .i64 i/\Hid (i<=m3/\X.length=i)/\Hid (RowS kState 51 C S sl wr)/\Hid (S.map StateD.p=X.map zpL)/\Hid (TS2 p a c zs 29 rb bx w s2 [.slice none 0 0,.slice none 0 0,.slice none 0 0,.slice none 0 0,.slice none 0 0,.slice none 0 0,.slice none 0 0] [.slice q1r.a q1r.n q1r.c,.slice q2.a q2.n q2.c,.slice sl.a sl.n sl.c,.slice none 0 0,.slice none 0 0,.slice none 0 0,.slice none 0 0] wr)/\Hid (Hi B0 WL3 wr)/\Hid (Sim s3 (fun t=>xh (zk0 zs) m3 t) s2 fun t=>y7 (xk X (xh (zk0 zs) (m3-i) t)) fun l u=>.ok (l,u))) (fun q _=>m3-(intOf q).toNat)
    case atStart=>exact⟨0,[],[],⟨none,0,0⟩,s3,rfl,⟨zon _,rfl⟩,a6,rfl,T3,a8,a5⟩
    case round=>
     clear a6 a8 a5 T3;obtain⟨i,X,S,sl,s2,rfl,HI,P,E,T,Q,HM⟩:=hrel;have HO:=hid (tok T.out.st.tk);go_upto_region 10 with fail
     go_cut [43]from 37 to 43 (fun v wc=>v=.bool (decide (i<m3)&&okE s2)/\wr=wc)
     case first=>
      by_cases F:i<m3
      ·have c3:(i:Int)<(m3:Int):=by omega
       go_wp2_with fail
       refine HO.out.mono ?_;rintro e w2 ⟨rfl,rfl⟩;go_wp2_with fail
       go_meet
       exact⟨by simp[F],rfl⟩
      ·have c3:¬(i:Int)<(m3:Int):=by omega
       go_wp2_with fail
       go_meet
       exact⟨by simp[F],rfl⟩
     case rest=>
      obtain⟨rfl,rfl⟩:=hcut;clear HO;cases I:(decide (i<m3)&&okE s2)
      ·have L:=zpy I;have e5:=hid (Sim.next M3.out (HM.out.done L));have U:Hid (B0<=wr.heap.size):=zoz U.out Q.out.size;have H:=hid (H.out.step (Kd.keeps kHead) (Hi.low Q.out (zos _)));have Q2:=hid (Q2.out.step (Kd.keeps kInt) (Hi.low Q.out (zos _)));obtain⟨q3r,eq3r⟩:∃q,q=sl:=⟨_,rfl⟩;obtain⟨L3r,eL3r⟩:∃l,l=S:=⟨_,rfl⟩;obtain⟨x3r,ex3r⟩:∃l,l=X:=⟨_,rfl⟩;obtain⟨sx,esx⟩:∃x,x=s2:=⟨_,rfl⟩;rw[<-eq3r]at T P;rw[<-eL3r]at P E;rw[<-ex3r]at E e5;rw[<-esx]at T e5;have V:=hid (QRow.cov P.out.fin.1 (Kd.covs kState) (qq wr M.out.2.2.2.1));have i3:=hid P.out.fin.2;have i0:=E;have h0:=T;clear P HM HI Q T E L I M eq3r eL3r ex3r esx;have R:=hid (zp1 h0.out.st.tk);go_wp2_with fail
       refine R.out.mono ?_;rintro e w4 ⟨_,m4,s4,rfl,⟨rfl,hm⟩,D,N,hs⟩;have M4:=hid (Sim.cntL e5.out hs);have j0:m4<=100000:=zoz hm N.few;have T4:=hid (h0.out.read D N);have H:=hid (H.out.step (Kd.keeps kHead) (Hi.low (Hi.rn D m.out.1) (zos _)));have Q2:=hid (Q2.out.step (Kd.keeps kInt) (Hi.low (Hi.rn D m.out.1) (zos _)));have V:=hid (V.out.step (Kd.keeps kState) (Hi.low (Hi.rn D m.out.1) (zos _)));have U:Hid (B0<=w4.heap.size):=zoz U.out D.size;clear R D N hs hm;obtain⟨WL4,eWL⟩:∃W,W=w4:=⟨_,rfl⟩;obtain⟨C,eC⟩:∃C,C=w4.heap.size:=⟨_,rfl⟩;have M:Hid (p<C/\rb<C/\bx<C/\B0<=C/\w4.heap.size<=C/\C<=w4.heap.size):=by have h1:=m.out;have h2:=U.out;show _/\_;omega
       have a6:Hid (RowS kAct 56 C [] ⟨none,0,0⟩ w4):=RowS.nil _ _ M.out.2.2.2.2.2;have a5:=hid (Sim.loop0 s4 (zpT zs) m4);have a8:Hid (Hi B0 WL4 w4):=by rw[eWL];exact Hi.refl _ _
       clear eC;rw[<-eWL]at H;rw[<-eWL]at Q2;rw[<-eWL]at V;rw[<-eWL]at M U;clear eWL;go_wp2;go_loopw [7] (fun q wr=>∃(i:Nat) (X:List (ActX)) (S:List _) (sl:QSl) (s2:Except (Int × Int) Nat),q=.int .i64 i/\Hid (i<=m4/\X.length=i)/\Hid (RowS kAct 56 C S sl wr)/\Hid (S.map ActD.p=X.map zqW)/\Hid (TS2 p a c zs 29 rb bx w s2 [.slice none 0 0,.slice none 0 0,.slice none 0 0,.slice none 0 0,.slice none 0 0,.slice none 0 0,.slice none 0 0] [.slice q1r.a q1r.n q1r.c,.slice q2.a q2.n q2.c,.slice q3r.a q3r.n q3r.c,.slice sl.a sl.n sl.c,.slice none 0 0,.slice none 0 0,.slice none 0 0] wr)/\Hid (Hi B0 WL4 wr)/\Hid (Sim s4 (fun t=>xh (zpT zs) m4 t) s2 fun t=>y7 (xk X (xh (zpT zs) (m4-i) t)) fun l u=>.ok (l,u))) (fun q _=>m4-(intOf q).toNat)
       case atStart=>exact⟨0,[],[],⟨none,0,0⟩,s4,rfl,⟨zon _,rfl⟩,a6,rfl,T4,a8,a5⟩
       case round=>
        clear a6 a8 a5 T4;obtain⟨i,X,S,sl,s2,rfl,HI,P,E,T,Q,HM⟩:=hrel;have HO:=hid (tok T.out.st.tk);go_upto_region 15 with fail
        go_cut [61]from 55 to 61 (fun v wc=>v=.bool (decide (i<m4)&&okE s2)/\wr=wc)
        case first=>
         by_cases F:i<m4
         ·have c3:(i:Int)<(m4:Int):=by omega
          go_wp2_with fail
          refine HO.out.mono ?_;rintro e w2 ⟨rfl,rfl⟩;go_wp2_with fail
          go_meet
          exact⟨by simp[F],rfl⟩
         ·have c3:¬(i:Int)<(m4:Int):=by omega
          go_wp2_with fail
          go_meet
          exact⟨by simp[F],rfl⟩
        case rest=>
         obtain⟨rfl,rfl⟩:=hcut;clear HO;cases I:(decide (i<m4)&&okE s2)
         ·have L:=zpy I;have f0:=hid (Sim.next M4.out (HM.out.done L));have U:Hid (B0<=wr.heap.size):=zoz U.out Q.out.size;have H:=hid (H.out.step (Kd.keeps kHead) (Hi.low Q.out (zos _)));have Q2:=hid (Q2.out.step (Kd.keeps kInt) (Hi.low Q.out (zos _)));have V:=hid (V.out.step (Kd.keeps kState) (Hi.low Q.out (zos _)));obtain⟨q4r,eq4r⟩:∃q,q=sl:=⟨_,rfl⟩;obtain⟨L4r,eL4r⟩:∃l,l=S:=⟨_,rfl⟩;obtain⟨x4r,ex4r⟩:∃l,l=X:=⟨_,rfl⟩;obtain⟨sx,esx⟩:∃x,x=s2:=⟨_,rfl⟩;rw[<-eq4r]at T P;rw[<-eL4r]at P E;rw[<-ex4r]at E f0;rw[<-esx]at T f0;have a7:=hid (QRow.cov P.out.fin.1 (Kd.covs kAct) (qq wr M.out.2.2.2.1));have g5:=hid P.out.fin.2;have g0:=E;have h4:=T;clear P HM HI Q T E L I M eq4r eL4r ex4r esx;have R:=hid (zp1 h4.out.st.tk);go_wp2_with fail
          refine R.out.mono ?_;rintro e w5 ⟨_,m5,s5,rfl,⟨rfl,hm⟩,D,N,hs⟩;have M5:=hid (Sim.cntL f0.out hs);have j3:m5<=100000:=zoz hm N.few;have T5:=hid (h4.out.read D N);have H:=hid (H.out.step (Kd.keeps kHead) (Hi.low (Hi.rn D m.out.1) (zos _)));have Q2:=hid (Q2.out.step (Kd.keeps kInt) (Hi.low (Hi.rn D m.out.1) (zos _)));have V:=hid (V.out.step (Kd.keeps kState) (Hi.low (Hi.rn D m.out.1) (zos _)));have a7:=hid (a7.out.step (Kd.keeps kAct) (Hi.low (Hi.rn D m.out.1) (zos _)));have U:Hid (B0<=w5.heap.size):=zoz U.out D.size;clear R D N hs hm;obtain⟨WL5,eWL⟩:∃W,W=w5:=⟨_,rfl⟩;obtain⟨C,eC⟩:∃C,C=w5.heap.size:=⟨_,rfl⟩;have M:Hid (p<C/\rb<C/\bx<C/\B0<=C/\w5.heap.size<=C/\C<=w5.heap.size):=by have h1:=m.out;have h2:=U.out;show _/\_;omega
          have a6:Hid (RowS kTab 63 C [] ⟨none,0,0⟩ w5):=RowS.nil _ _ M.out.2.2.2.2.2;have a5:=hid (Sim.loop0 s5 (zpz zs) m5);have a8:Hid (Hi B0 WL5 w5):=by rw[eWL];exact Hi.refl _ _
          clear eC;rw[<-eWL]at H;rw[<-eWL]at Q2;rw[<-eWL]at V;rw[<-eWL]at a7;rw[<-eWL]at M U;clear eWL;go_wp2;go_loopw [11] (fun q wr=>∃(i:Nat) (X:List (TabX)) (S:List _) (sl:QSl) (s2:Except (Int × Int) Nat),q=.int .i64 i/\Hid (i<=m5/\X.length=i)/\Hid (RowS kTab 63 C S sl wr)/\Hid (S.map TabD.p=X.map zqL)/\Hid (TS2 p a c zs 29 rb bx w s2 [.slice none 0 0,.slice none 0 0,.slice none 0 0,.slice none 0 0,.slice none 0 0,.slice none 0 0,.slice none 0 0] [.slice q1r.a q1r.n q1r.c,.slice q2.a q2.n q2.c,.slice q3r.a q3r.n q3r.c,.slice q4r.a q4r.n q4r.c,.slice sl.a sl.n sl.c,.slice none 0 0,.slice none 0 0] wr)/\Hid (Hi B0 WL5 wr)/\Hid (Sim s5 (fun t=>xh (zpz zs) m5 t) s2 fun t=>y7 (xk X (xh (zpz zs) (m5-i) t)) fun l u=>.ok (l,u))) (fun q _=>m5-(intOf q).toNat)
          case atStart=>exact⟨0,[],[],⟨none,0,0⟩,s5,rfl,⟨zon _,rfl⟩,a6,rfl,T5,a8,a5⟩
          case round=>
           clear a6 a8 a5 T5;obtain⟨i,X,S,sl,s2,rfl,HI,P,E,T,Q,HM⟩:=hrel;have HO:=hid (tok T.out.st.tk);go_upto_region 26 with fail
           go_cut [99]from 93 to 99 (fun v wc=>v=.bool (decide (i<m5)&&okE s2)/\wr=wc)
           case first=>
            by_cases F:i<m5
            ·have c3:(i:Int)<(m5:Int):=by omega
             go_wp2_with fail
             refine HO.out.mono ?_;rintro e w2 ⟨rfl,rfl⟩;go_wp2_with fail
             go_meet
             exact⟨by simp[F],rfl⟩
            ·have c3:¬(i:Int)<(m5:Int):=by omega
             go_wp2_with fail
             go_meet
             exact⟨by simp[F],rfl⟩
           case rest=>
            obtain⟨rfl,rfl⟩:=hcut;clear HO;cases I:(decide (i<m5)&&okE s2)
            ·have L:=zpy I;have e8:=hid (Sim.next M5.out (HM.out.done L));have U:Hid (B0<=wr.heap.size):=zoz U.out Q.out.size;have H:=hid (H.out.step (Kd.keeps kHead) (Hi.low Q.out (zos _)));have Q2:=hid (Q2.out.step (Kd.keeps kInt) (Hi.low Q.out (zos _)));have V:=hid (V.out.step (Kd.keeps kState) (Hi.low Q.out (zos _)));have a7:=hid (a7.out.step (Kd.keeps kAct) (Hi.low Q.out (zos _)));obtain⟨q5r,eq5r⟩:∃q,q=sl:=⟨_,rfl⟩;obtain⟨L5r,eL5r⟩:∃l,l=S:=⟨_,rfl⟩;obtain⟨x5r,ex5r⟩:∃l,l=X:=⟨_,rfl⟩;obtain⟨sx,esx⟩:∃x,x=s2:=⟨_,rfl⟩;rw[<-eq5r]at T P;rw[<-eL5r]at P E;rw[<-ex5r]at E e8;rw[<-esx]at T e8;have c5:=hid (QRow.cov P.out.fin.1 (Kd.covs kTab) (qq wr M.out.2.2.2.1));have h5:=hid P.out.fin.2;have i5:=E;have f3:=T;clear P HM HI Q T E L I M eq5r eL5r ex5r esx;have R:=hid (zp1 f3.out.st.tk);go_wp2_with fail
             refine R.out.mono ?_;rintro e w6 ⟨_,m6,s6,rfl,⟨rfl,hm⟩,D,N,hs⟩;have M6:=hid (Sim.cntL e8.out hs);have j2:m6<=100000:=zoz hm N.few;have T6:=hid (f3.out.read D N);have H:=hid (H.out.step (Kd.keeps kHead) (Hi.low (Hi.rn D m.out.1) (zos _)));have Q2:=hid (Q2.out.step (Kd.keeps kInt) (Hi.low (Hi.rn D m.out.1) (zos _)));have V:=hid (V.out.step (Kd.keeps kState) (Hi.low (Hi.rn D m.out.1) (zos _)));have a7:=hid (a7.out.step (Kd.keeps kAct) (Hi.low (Hi.rn D m.out.1) (zos _)));have c5:=hid (c5.out.step (Kd.keeps kTab) (Hi.low (Hi.rn D m.out.1) (zos _)));have U:Hid (B0<=w6.heap.size):=zoz U.out D.size;clear R D N hs hm;obtain⟨WL6,eWL⟩:∃W,W=w6:=⟨_,rfl⟩;obtain⟨C,eC⟩:∃C,C=w6.heap.size:=⟨_,rfl⟩;have M:Hid (p<C/\rb<C/\bx<C/\B0<=C/\w6.heap.size<=C/\C<=w6.heap.size):=by have h1:=m.out;have h2:=U.out;show _/\_;omega
             have a6:Hid (RowS kNode 65 C [] ⟨none,0,0⟩ w6):=RowS.nil _ _ M.out.2.2.2.2.2;have a5:=hid (Sim.loop0 s6 (zo7 zs) m6);have a8:Hid (Hi B0 WL6 w6):=by rw[eWL];exact Hi.refl _ _
             clear eC;rw[<-eWL]at H;rw[<-eWL]at Q2;rw[<-eWL]at V;rw[<-eWL]at a7;rw[<-eWL]at c5;rw[<-eWL]at M U;clear eWL;go_wp2;go_loopw [12] (fun q wr=>∃(i:Nat) (X:List (NodeX)) (S:List _) (sl:QSl) (s2:Except (Int × Int) Nat),q=.int .i64 i/\Hid (i<=m6/\X.length=i)/\Hid (RowS kNode 65 C S sl wr)/\Hid (S.map NodeD.p=X.map zp3)/\Hid (TS2 p a c zs 29 rb bx w s2 [.slice none 0 0,.slice none 0 0,.slice none 0 0,.slice none 0 0,.slice none 0 0,.slice none 0 0,.slice none 0 0] [.slice q1r.a q1r.n q1r.c,.slice q2.a q2.n q2.c,.slice q3r.a q3r.n q3r.c,.slice q4r.a q4r.n q4r.c,.slice q5r.a q5r.n q5r.c,.slice sl.a sl.n sl.c,.slice none 0 0] wr)/\Hid (Hi B0 WL6 wr)/\Hid (Sim s6 (fun t=>xh (zo7 zs) m6 t) s2 fun t=>y7 (xk X (xh (zo7 zs) (m6-i) t)) fun l u=>.ok (l,u))) (fun q _=>m6-(intOf q).toNat)
             case atStart=>exact⟨0,[],[],⟨none,0,0⟩,s6,rfl,⟨zon _,rfl⟩,a6,rfl,T6,a8,a5⟩
             case round=>
              clear a6 a8 a5 T6;obtain⟨i,X,S,sl,s2,rfl,HI,P,E,T,Q,HM⟩:=hrel;have HO:=hid (tok T.out.st.tk);go_upto_region 31 with fail
              go_cut [117]from 111 to 117 (fun v wc=>v=.bool (decide (i<m6)&&okE s2)/\wr=wc)
              case first=>
               by_cases F:i<m6
               ·have c3:(i:Int)<(m6:Int):=by omega
                go_wp2_with fail
                refine HO.out.mono ?_;rintro e w2 ⟨rfl,rfl⟩;go_wp2_with fail
                go_meet
                exact⟨by simp[F],rfl⟩
               ·have c3:¬(i:Int)<(m6:Int):=by omega
                go_wp2_with fail
                go_meet
                exact⟨by simp[F],rfl⟩
              case rest=>
               obtain⟨rfl,rfl⟩:=hcut;clear HO;cases I:(decide (i<m6)&&okE s2)
               ·have L:=zpy I;have e9:=hid (Sim.next M6.out (HM.out.done L));have U:Hid (B0<=wr.heap.size):=zoz U.out Q.out.size;have H:=hid (H.out.step (Kd.keeps kHead) (Hi.low Q.out (zos _)));have Q2:=hid (Q2.out.step (Kd.keeps kInt) (Hi.low Q.out (zos _)));have V:=hid (V.out.step (Kd.keeps kState) (Hi.low Q.out (zos _)));have a7:=hid (a7.out.step (Kd.keeps kAct) (Hi.low Q.out (zos _)));have c5:=hid (c5.out.step (Kd.keeps kTab) (Hi.low Q.out (zos _)));obtain⟨q6r,eq6r⟩:∃q,q=sl:=⟨_,rfl⟩;obtain⟨L6r,eL6r⟩:∃l,l=S:=⟨_,rfl⟩;obtain⟨x6r,ex6r⟩:∃l,l=X:=⟨_,rfl⟩;obtain⟨sx,esx⟩:∃x,x=s2:=⟨_,rfl⟩;rw[<-eq6r]at T P;rw[<-eL6r]at P E;rw[<-ex6r]at E e9;rw[<-esx]at T e9;have d3:=hid (QRow.cov P.out.fin.1 (Kd.covs kNode) (qq wr M.out.2.2.2.1));have h6:=hid P.out.fin.2;have i1:=E;have e6:=T;clear P HM HI Q T E L I M eq6r eL6r ex6r esx;have R:=hid (zrV e6.out.st.tk);go_wp2_with fail
                refine R.out.mono ?_;rintro e Y ⟨_,x7,s7,rfl,⟨q7,L7,rfl,f6,g7,f4,i4⟩,D,N,hs⟩;have M7:=hid (Sim.next e9.out hs);have T7:=hid (e6.out.read D N);have H:=hid (H.out.step (Kd.keeps kHead) (Hi.low (Hi.rn D m.out.1) (zos _)));have Q2:=hid (Q2.out.step (Kd.keeps kInt) (Hi.low (Hi.rn D m.out.1) (zos _)));have V:=hid (V.out.step (Kd.keeps kState) (Hi.low (Hi.rn D m.out.1) (zos _)));have a7:=hid (a7.out.step (Kd.keeps kAct) (Hi.low (Hi.rn D m.out.1) (zos _)));have c5:=hid (c5.out.step (Kd.keeps kTab) (Hi.low (Hi.rn D m.out.1) (zos _)));have d3:=hid (d3.out.step (Kd.keeps kNode) (Hi.low (Hi.rn D m.out.1) (zos _)));have Q7:=hid (QRow.cov (f6) (Kd.covs kInt) (qq Y U.out));have N7:=hid (And.intro g7 f4);have P7:=hid i4;have U:Hid (B0<=Y.heap.size):=zoz U.out D.size;clear f6 g7 f4 i4;clear R D N hs e6;have b6:=T7.out.box.cell (i:=6) rfl;have z6:=T7.out.box.fz 6;have l0:=T7.out.box.lt;have b0:=T7.out.box.cell (i:=0) rfl;have r0:=T7.out.st.box.cell (i:=0) rfl;have y0:=T7.out.st.box.fz 0;have b1:=T7.out.box.cell (i:=1) rfl;have r1:=T7.out.st.box.cell (i:=1) rfl;have y1:=T7.out.st.box.fz 1;have b2:=T7.out.box.cell (i:=2) rfl;have r2:=T7.out.st.box.cell (i:=2) rfl;have y2:=T7.out.st.box.fz 2;have b3:=T7.out.box.cell (i:=3) rfl;have r3:=T7.out.st.box.cell (i:=3) rfl;have y3:=T7.out.st.box.fz 3;have b4:=T7.out.box.cell (i:=4) rfl;have r4:=T7.out.st.box.cell (i:=4) rfl;have y4:=T7.out.st.box.fz 4;have b5:=T7.out.box.cell (i:=5) rfl;have r5:=T7.out.st.box.cell (i:=5) rfl;have y5:=T7.out.st.box.fz 5;have b6:=T7.out.box.cell (i:=6) rfl;have r6:=T7.out.st.box.cell (i:=6) rfl;have y6:=T7.out.st.box.fz 6;have z6:=T7.out.box.fz 6;have l0:=T7.out.box.lt;have l1:=T7.out.st.box.lt;have n1:¬bx=rb:=by have:=T7.out.lt;omega
                have n2:¬rb=bx:=by have:=T7.out.lt;omega
                have TE:=((((((((T7.out.put 6 (.slice q7.a q7.n q7.c)).putr 0 (.slice q1r.a q1r.n q1r.c)).putr 1 (.slice q2.a q2.n q2.c)).putr 2 (.slice q3r.a q3r.n q3r.c)).putr 3 (.slice q4r.a q4r.n q4r.c)).putr 4 (.slice q5r.a q5r.n q5r.c)).putr 5 (.slice q6r.a q6r.n q6r.c)).putr 6 (.slice q7.a q7.n q7.c));have e0:=QRow.cov (QRow.step H.out (Kd.keeps kHead) (Hi.low (((((((((Hi.refl B0 Y).put m.out.2.2 6 (.slice q7.a q7.n q7.c)).put m.out.2.1 0 (.slice q1r.a q1r.n q1r.c)).put m.out.2.1 1 (.slice q2.a q2.n q2.c)).put m.out.2.1 2 (.slice q3r.a q3r.n q3r.c)).put m.out.2.1 3 (.slice q4r.a q4r.n q4r.c)).put m.out.2.1 4 (.slice q5r.a q5r.n q5r.c)).put m.out.2.1 5 (.slice q6r.a q6r.n q6r.c)).put m.out.2.1 6 (.slice q7.a q7.n q7.c)) (zos _))) (Kd.covs kHead) (qq _ c8.out);have g9:=QRow.cov (QRow.step Q2.out (Kd.keeps kInt) (Hi.low (((((((((Hi.refl B0 Y).put m.out.2.2 6 (.slice q7.a q7.n q7.c)).put m.out.2.1 0 (.slice q1r.a q1r.n q1r.c)).put m.out.2.1 1 (.slice q2.a q2.n q2.c)).put m.out.2.1 2 (.slice q3r.a q3r.n q3r.c)).put m.out.2.1 3 (.slice q4r.a q4r.n q4r.c)).put m.out.2.1 4 (.slice q5r.a q5r.n q5r.c)).put m.out.2.1 5 (.slice q6r.a q6r.n q6r.c)).put m.out.2.1 6 (.slice q7.a q7.n q7.c)) (zos _))) (Kd.covs kInt) (qq _ c8.out);have e3:=QRow.cov (QRow.step V.out (Kd.keeps kState) (Hi.low (((((((((Hi.refl B0 Y).put m.out.2.2 6 (.slice q7.a q7.n q7.c)).put m.out.2.1 0 (.slice q1r.a q1r.n q1r.c)).put m.out.2.1 1 (.slice q2.a q2.n q2.c)).put m.out.2.1 2 (.slice q3r.a q3r.n q3r.c)).put m.out.2.1 3 (.slice q4r.a q4r.n q4r.c)).put m.out.2.1 4 (.slice q5r.a q5r.n q5r.c)).put m.out.2.1 5 (.slice q6r.a q6r.n q6r.c)).put m.out.2.1 6 (.slice q7.a q7.n q7.c)) (zos _))) (Kd.covs kState) (qq _ c8.out);have e2:=QRow.cov (QRow.step a7.out (Kd.keeps kAct) (Hi.low (((((((((Hi.refl B0 Y).put m.out.2.2 6 (.slice q7.a q7.n q7.c)).put m.out.2.1 0 (.slice q1r.a q1r.n q1r.c)).put m.out.2.1 1 (.slice q2.a q2.n q2.c)).put m.out.2.1 2 (.slice q3r.a q3r.n q3r.c)).put m.out.2.1 3 (.slice q4r.a q4r.n q4r.c)).put m.out.2.1 4 (.slice q5r.a q5r.n q5r.c)).put m.out.2.1 5 (.slice q6r.a q6r.n q6r.c)).put m.out.2.1 6 (.slice q7.a q7.n q7.c)) (zos _))) (Kd.covs kAct) (qq _ c8.out);have d9:=QRow.cov (QRow.step c5.out (Kd.keeps kTab) (Hi.low (((((((((Hi.refl B0 Y).put m.out.2.2 6 (.slice q7.a q7.n q7.c)).put m.out.2.1 0 (.slice q1r.a q1r.n q1r.c)).put m.out.2.1 1 (.slice q2.a q2.n q2.c)).put m.out.2.1 2 (.slice q3r.a q3r.n q3r.c)).put m.out.2.1 3 (.slice q4r.a q4r.n q4r.c)).put m.out.2.1 4 (.slice q5r.a q5r.n q5r.c)).put m.out.2.1 5 (.slice q6r.a q6r.n q6r.c)).put m.out.2.1 6 (.slice q7.a q7.n q7.c)) (zos _))) (Kd.covs kTab) (qq _ c8.out);have e1:=QRow.cov (QRow.step d3.out (Kd.keeps kNode) (Hi.low (((((((((Hi.refl B0 Y).put m.out.2.2 6 (.slice q7.a q7.n q7.c)).put m.out.2.1 0 (.slice q1r.a q1r.n q1r.c)).put m.out.2.1 1 (.slice q2.a q2.n q2.c)).put m.out.2.1 2 (.slice q3r.a q3r.n q3r.c)).put m.out.2.1 3 (.slice q4r.a q4r.n q4r.c)).put m.out.2.1 4 (.slice q5r.a q5r.n q5r.c)).put m.out.2.1 5 (.slice q6r.a q6r.n q6r.c)).put m.out.2.1 6 (.slice q7.a q7.n q7.c)) (zos _))) (Kd.covs kNode) (qq _ c8.out);have i2:=QRow.cov (QRow.step Q7.out (Kd.keeps kInt) (Hi.low (((((((((Hi.refl B0 Y).put m.out.2.2 6 (.slice q7.a q7.n q7.c)).put m.out.2.1 0 (.slice q1r.a q1r.n q1r.c)).put m.out.2.1 1 (.slice q2.a q2.n q2.c)).put m.out.2.1 2 (.slice q3r.a q3r.n q3r.c)).put m.out.2.1 3 (.slice q4r.a q4r.n q4r.c)).put m.out.2.1 4 (.slice q5r.a q5r.n q5r.c)).put m.out.2.1 5 (.slice q6r.a q6r.n q6r.c)).put m.out.2.1 6 (.slice q7.a q7.n q7.c)) (zos _))) (Kd.covs kInt) (qq _ c8.out);have HE:Hid (TD p a c zs s (zpq zs) (PV w.heap.size) w (.returned (.agg #[.slice q1r.a q1r.n q1r.c,.slice q2.a q2.n q2.c,.slice q3r.a q3r.n q3r.c,.slice q4r.a q4r.n q4r.c,.slice q5r.a q5r.n q5r.c,.slice q6r.a q6r.n q6r.c,.slice q7.a q7.n q7.c])) ((((((((Y.setCell ⟨bx,6,none⟩ (.slice q7.a q7.n q7.c)).setCell ⟨rb,0,none⟩ (.slice q1r.a q1r.n q1r.c)).setCell ⟨rb,1,none⟩ (.slice q2.a q2.n q2.c)).setCell ⟨rb,2,none⟩ (.slice q3r.a q3r.n q3r.c)).setCell ⟨rb,3,none⟩ (.slice q4r.a q4r.n q4r.c)).setCell ⟨rb,4,none⟩ (.slice q5r.a q5r.n q5r.c)).setCell ⟨rb,5,none⟩ (.slice q6r.a q6r.n q6r.c)).setCell ⟨rb,6,none⟩ (.slice q7.a q7.n q7.c))):=⟨_,⟨x1r,x2,x3r,x4r,x5r,x6r,x7⟩,s7,rfl,⟨⟨q1r,L1r,q2,L2,q3r,L3r,q4r,L4r,q5r,L5r,q6r,L6r,q7,L7⟩,rfl,⟨e0,zad g9,e3,e2,d9,e1,zad i2,N7.out.2⟩,⟨f1.out.1,N2.out.1,i3.out.1,g5.out.1,h5.out.1,h6.out.1,N7.out.1⟩,(by show(⟨L1r.map HeadD.ws,L2,L3r.map StateD.p,L4r.map ActD.p,L5r.map TabD.p,L6r.map NodeD.p,L7⟩:PPlan)=⟨x1r,x2,x3r.map zpL,x4r.map zqW,x5r.map zqL,x6r.map zp3,x7⟩;rw[g6.out,i0.out,g0.out,i5.out,i1.out,List.map_id,show L2=x2 from(List.map_id _).symm.trans (P2.out.trans (List.map_id _)),show L7=x7 from(List.map_id _).symm.trans (P7.out.trans (List.map_id _))])⟩,TE.st.rn,TE.st.tk,M7.out⟩
                clear TE e0 H f1 g6 g9 Q2 N2 P2 e3 V i3 i0 e2 a7 g5 g0 d9 c5 h5 i5 e1 d3 h6 i1 i2 Q7 N7 P7 T7 m c8 U;go_wp2;exact bodyPost_ret (v:=.agg #[.slice q1r.a q1r.n q1r.c,.slice q2.a q2.n q2.c,.slice q3r.a q3r.n q3r.c,.slice q4r.a q4r.n q4r.c,.slice q5r.a q5r.n q5r.c,.slice q6r.a q6r.n q6r.c,.slice q7.a q7.n q7.c]) (by simp[results,Tryz.results32,go_sem, *]) rfl HE.out
               ·have F:=zpP I;clear I;have BD:Hid (Below wr.heap.size wr wr.drew):=⟨rfl,rfl,rfl,zos _,fun _ _=>rfl⟩
                have SD:=hid (T.out.step BD.out);have R:=hid (zvf SD.out.st.tk);have a3:=SD.out.box.cell (i:=5) rfl;have c7:=SD.out.box.lt;go_upto_region 33 with fail
                refine zde 6 (by kernel_rfl) (by kernel_rfl) ?_
                refine wpAny_of_held (S:=(fun w'=>w'.cell? ⟨bx,5,none⟩=some (.slice sl.a sl.n sl.c))) _ _ _ _ ?_
                have A:(fun w'=>w'.cell? ⟨bx,5,none⟩=some (.slice sl.a sl.n sl.c)) wr.drew:=a3
                refine wpAnyH_take (i:=0) (v:=?_) (jL rfl) (by kernel_rfl) (by kernel_rfl) (by kernel_rfl) (fun _ _ _ h=>h) (Or.inl ⟨by rfl,?_⟩) A ?_
                rotate_left
                ·intro w0 G;try dsimp only at G
                 go_simp
                 try with_reducible rfl
                try simp only[Act.put,List.setIfInBounds_toArray,List.set_cons_zero,List.set_cons_succ]
                refine wpAnyH_take (i:=1) (v:=?_) (jL rfl) (by kernel_rfl) (by kernel_rfl) (by kernel_rfl) (fun _ _ _ h=>h) (Or.inl ⟨by rfl,?_⟩) A ?_
                rotate_left
                ·intro w0 G;try dsimp only at G
                 go_simp
                 try with_reducible rfl
                try simp only[Act.put,List.setIfInBounds_toArray,List.set_cons_zero,List.set_cons_succ]
                refine wpAnyH_take (i:=2) (v:=?_) (jL rfl) (by kernel_rfl) (by kernel_rfl) (by kernel_rfl) (fun _ _ _ h=>h) (Or.inl ⟨by rfl,?_⟩) A ?_
                rotate_left
                ·intro w0 G;try dsimp only at G
                 go_simp
                 try with_reducible rfl
                try simp only[Act.put,List.setIfInBounds_toArray,List.set_cons_zero,List.set_cons_succ]
                refine wpAnyH_ready (rs:=[3]) (by kernel_rfl) (by simp) ?_
                refine AllReadyH.cons (jL rfl) (fun K O=>?_) AllReadyH.nil
                go_simp
                go_at_call 80
                refine R.out.mono ?_;rintro e w5 ⟨_,x,s3,rfl,⟨d,hv,hi,hp⟩,D,N,hs⟩;obtain rfl:_=Value.agg #[.int .i64 d.kind,.int .i64 d.n,.slice d.e.a d.e.n d.e.c,.int .i64 d.yes,.int .i64 d.no]:=hv;have a0:=HI.out;have S5:=SD.out.read D N;have B3:=ze (o:=.cells [.int .i64 d.kind,.int .i64 d.n,.slice d.e.a d.e.n d.e.c,.int .i64 d.yes,.int .i64 d.no].toArray 65) (zof w5.heap.size w5);obtain⟨g,Y,J,en,row,hb⟩:=RowS.push 27 Tryz.underlying27 Tryz.infoNode rfl (by decide) P.out (((Hi.of BD.out).trans (Hi.rn D M.out.1)).trans (Hi.of B3)) (zoz M.out.2.2.2.2.2 Q.out.size) (x:=d) (kNode.step hi (Hi.low (Hi.of B3) (zos _))) (ad:=⟨w5.heap.size,0,none⟩) (c:=1) zbH (by have h1:=P.out.len;have h2:=congrArg List.length E.out;rw[zoE,zoE]at h2;omega)
                have S6:=S5.step B3;have S7:=S6.far hb M.out.2.2.1;have a2:=S5.box.cell (i:=5) rfl;have a4:=S6.box.cell (i:=5) rfl;have c4:=S7.box.cell (i:=5) rfl;have z7:=S7.box.fz 5;have l7:=S7.box.lt;have b7:=hid (HM.out.elem F hs);have c2:Hid (TS2 p a c zs 29 rb bx w s3 [.slice none 0 0,.slice none 0 0,.slice none 0 0,.slice none 0 0,.slice none 0 0,.slice none 0 0,.slice none 0 0] [.slice q1r.a q1r.n q1r.c,.slice q2.a q2.n q2.c,.slice q3r.a q3r.n q3r.c,.slice q4r.a q4r.n q4r.c,.slice q5r.a q5r.n q5r.c,.slice g.a g.n g.c,.slice none 0 0] (Y.setCell ⟨bx,5,none⟩ (.slice g.a g.n g.c))):=S7.put 5 (.slice g.a g.n g.c);have c6:Hid (Hi B0 WL6 (Y.setCell ⟨bx,5,none⟩ (.slice g.a g.n g.c))):=(((((Q.out.trans (Hi.of BD.out)).trans (Hi.rn D m.out.1)).trans (Hi.of B3)).far hb M.out.2.2.2.2.1)).put m.out.2.2 5 (.slice g.a g.n g.c);have b8:Hid (RowS kNode 65 C (S++[d]) g (Y.setCell ⟨bx,5,none⟩ (.slice g.a g.n g.c))):=row.keep ((Hi.refl C Y).put M.out.2.2.1 5 (.slice g.a g.n g.c));have Z:Hid ((S++[d]).map NodeD.p=(X++[x]).map zp3):=by show _=_;rw[List.map_append,List.map_append,E.out];exact congrArg (fun y=>X.map zp3++[y]) hp
                have b9:Hid (i+1<=m6/\(X++[x]).length=i+1):=⟨F,by rw[List.length_append,a0.2];rfl⟩
                clear R hs N D S5 S6 S7 SD BD en row hb B3 a0 P T Q HM HI E hi hp;refine O.out _ _ a2 (fun A=>?_)
                clear O K;try simp only[List.setIfInBounds_toArray]
                refine wpAnyH_ready (rs:=[4]) (by kernel_rfl) (by simp) ?_
                refine AllReadyH.cons (jL rfl) (fun K O=>?_) AllReadyH.nil
                go_simp
                refine O.out _ _ a4 (fun A=>?_)
                clear O K;try simp only[List.setIfInBounds_toArray]
                refine wpAnyH_ready (rs:=[5]) (by kernel_rfl) (by simp) ?_
                refine AllReadyH.cons (jL rfl) (fun K O=>?_) AllReadyH.nil
                refine zac rfl _ _ rfl (by simp[Act.eval]) (by simp[Act.eval]) J ?_
                refine O.out _ _ c4 (fun A=>?_)
                clear O K;try simp only[List.setIfInBounds_toArray]
                refine wpAnyH_done (by kernel_rfl) ?_ _
                dsimp only[zbv];clear A J a3 a2 a4 c7;go_wp2;go_roundw
                case rel=>exact⟨i+1,X++[x],S++[d],g,s3,by go_num,b9,b8,Z,c2,c6,b7⟩
                case measure=>simp[intOf];omega
            ·have F:=zpP I;clear I;have BD:Hid (Below wr.heap.size wr wr.drew):=⟨rfl,rfl,rfl,zos _,fun _ _=>rfl⟩
             have SD:=hid (T.out.step BD.out);have R:=hid (zu1 SD.out.st.tk);have a3:=SD.out.box.cell (i:=4) rfl;have c7:=SD.out.box.lt;go_upto_region 28 with fail
             refine zde 6 (by kernel_rfl) (by kernel_rfl) ?_
             refine wpAny_of_held (S:=(fun w'=>w'.cell? ⟨bx,4,none⟩=some (.slice sl.a sl.n sl.c))) _ _ _ _ ?_
             have A:(fun w'=>w'.cell? ⟨bx,4,none⟩=some (.slice sl.a sl.n sl.c)) wr.drew:=a3
             refine wpAnyH_take (i:=0) (v:=?_) (jL rfl) (by kernel_rfl) (by kernel_rfl) (by kernel_rfl) (fun _ _ _ h=>h) (Or.inl ⟨by rfl,?_⟩) A ?_
             rotate_left
             ·intro w0 G;try dsimp only at G
              go_simp
              try with_reducible rfl
             try simp only[Act.put,List.setIfInBounds_toArray,List.set_cons_zero,List.set_cons_succ]
             refine wpAnyH_take (i:=1) (v:=?_) (jL rfl) (by kernel_rfl) (by kernel_rfl) (by kernel_rfl) (fun _ _ _ h=>h) (Or.inl ⟨by rfl,?_⟩) A ?_
             rotate_left
             ·intro w0 G;try dsimp only at G
              go_simp
              try with_reducible rfl
             try simp only[Act.put,List.setIfInBounds_toArray,List.set_cons_zero,List.set_cons_succ]
             refine wpAnyH_take (i:=2) (v:=?_) (jL rfl) (by kernel_rfl) (by kernel_rfl) (by kernel_rfl) (fun _ _ _ h=>h) (Or.inl ⟨by rfl,?_⟩) A ?_
             rotate_left
             ·intro w0 G;try dsimp only at G
              go_simp
              try with_reducible rfl
             try simp only[Act.put,List.setIfInBounds_toArray,List.set_cons_zero,List.set_cons_succ]
             refine wpAnyH_ready (rs:=[3]) (by kernel_rfl) (by simp) ?_
             refine AllReadyH.cons (jL rfl) (fun K O=>?_) AllReadyH.nil
             go_simp
             go_at_call 79
             refine R.out.mono ?_;rintro e w5 ⟨_,x,s3,rfl,⟨d,hv,hi,hp⟩,D,N,hs⟩;obtain rfl:_=Value.agg #[.int .i64 d.kind,.slice d.keys.a d.keys.n d.keys.c,.slice d.acts.a d.acts.n d.acts.c,.int .i64 d.cap,.int .i64 d.dflt,.slice d.args.a d.args.n d.args.c]:=hv;have a0:=HI.out;have S5:=SD.out.read D N;have B3:=ze (o:=.cells [.int .i64 d.kind,.slice d.keys.a d.keys.n d.keys.c,.slice d.acts.a d.acts.n d.acts.c,.int .i64 d.cap,.int .i64 d.dflt,.slice d.args.a d.args.n d.args.c].toArray 63) (zof w5.heap.size w5);obtain⟨g,Y,J,en,row,hb⟩:=RowS.push 26 Tryz.underlying26 Tryz.infoTable rfl (by decide) P.out (((Hi.of BD.out).trans (Hi.rn D M.out.1)).trans (Hi.of B3)) (zoz M.out.2.2.2.2.2 Q.out.size) (x:=d) (kTab.step hi (Hi.low (Hi.of B3) (zos _))) (ad:=⟨w5.heap.size,0,none⟩) (c:=1) zbH (by have h1:=P.out.len;have h2:=congrArg List.length E.out;rw[zoE,zoE]at h2;omega)
             have S6:=S5.step B3;have S7:=S6.far hb M.out.2.2.1;have a2:=S5.box.cell (i:=4) rfl;have a4:=S6.box.cell (i:=4) rfl;have c4:=S7.box.cell (i:=4) rfl;have z7:=S7.box.fz 4;have l7:=S7.box.lt;have b7:=hid (HM.out.elem F hs);have c2:Hid (TS2 p a c zs 29 rb bx w s3 [.slice none 0 0,.slice none 0 0,.slice none 0 0,.slice none 0 0,.slice none 0 0,.slice none 0 0,.slice none 0 0] [.slice q1r.a q1r.n q1r.c,.slice q2.a q2.n q2.c,.slice q3r.a q3r.n q3r.c,.slice q4r.a q4r.n q4r.c,.slice g.a g.n g.c,.slice none 0 0,.slice none 0 0] (Y.setCell ⟨bx,4,none⟩ (.slice g.a g.n g.c))):=S7.put 4 (.slice g.a g.n g.c);have c6:Hid (Hi B0 WL5 (Y.setCell ⟨bx,4,none⟩ (.slice g.a g.n g.c))):=(((((Q.out.trans (Hi.of BD.out)).trans (Hi.rn D m.out.1)).trans (Hi.of B3)).far hb M.out.2.2.2.2.1)).put m.out.2.2 4 (.slice g.a g.n g.c);have b8:Hid (RowS kTab 63 C (S++[d]) g (Y.setCell ⟨bx,4,none⟩ (.slice g.a g.n g.c))):=row.keep ((Hi.refl C Y).put M.out.2.2.1 4 (.slice g.a g.n g.c));have Z:Hid ((S++[d]).map TabD.p=(X++[x]).map zqL):=by show _=_;rw[List.map_append,List.map_append,E.out];exact congrArg (fun y=>X.map zqL++[y]) hp
             have b9:Hid (i+1<=m5/\(X++[x]).length=i+1):=⟨F,by rw[List.length_append,a0.2];rfl⟩
             clear R hs N D S5 S6 S7 SD BD en row hb B3 a0 P T Q HM HI E hi hp;refine O.out _ _ a2 (fun A=>?_)
             clear O K;try simp only[List.setIfInBounds_toArray]
             refine wpAnyH_ready (rs:=[4]) (by kernel_rfl) (by simp) ?_
             refine AllReadyH.cons (jL rfl) (fun K O=>?_) AllReadyH.nil
             go_simp
             refine O.out _ _ a4 (fun A=>?_)
             clear O K;try simp only[List.setIfInBounds_toArray]
             refine wpAnyH_ready (rs:=[5]) (by kernel_rfl) (by simp) ?_
             refine AllReadyH.cons (jL rfl) (fun K O=>?_) AllReadyH.nil
             refine zac rfl _ _ rfl (by simp[Act.eval]) (by simp[Act.eval]) J ?_
             refine O.out _ _ c4 (fun A=>?_)
             clear O K;try simp only[List.setIfInBounds_toArray]
             refine wpAnyH_done (by kernel_rfl) ?_ _
             dsimp only[zbv];clear A J a3 a2 a4 c7;go_wp2;go_roundw
             case rel=>exact⟨i+1,X++[x],S++[d],g,s3,by go_num,b9,b8,Z,c2,c6,b7⟩
             case measure=>simp[intOf];omega
         ·have F:=zpP I;clear I;generalize wr=wo at*;have R:=hid (zrV T.out.st.tk);have d4:Hid (p<wo.heap.size):=T.out.st.tk.lt;go_wp2_with fail
          refine R.out.mono ?_;rintro e w5 ⟨_,xw,t1,rfl,⟨qw,Lw,rfl,g1,i6,i7,f2⟩,D,N,hs⟩;have f7:=hid (Sim.next (Sim.refl s2 (zpT zs)) hs);obtain⟨V5,eV5⟩:∃W,W=w5.alloc (.cells #[.slice qw.a qw.n qw.c,.slice none 0 0] 56):=⟨_,rfl⟩;obtain⟨ab,eab⟩:∃b,b=w5.heap.size:=⟨_,rfl⟩;have E1:Hid (TSt p a c zs 56 ab wo t1 [.slice qw.a qw.n qw.c,.slice none 0 0] V5):=by rw[eV5,eab];exact TSt.start N D _ _
          have QW:Hid (QRow kInt.k kInt.lie (mask (fun b=>b<wo.heap.size\/b=ab) (fun _=>Classical.propDecidable _) V5) qw Lw):=by rw[eV5,eab];exact QRow.step g1 (Kd.keeps kInt) (HiX.new _ _ _)
          have NW:=hid i6;have PW:=hid f2;have EV:=hid eV5;have EB:=hid eab;clear R g1 i6 i7 f2 D N hs eV5 eab;have R:=hid (zp1 E1.out.tk);go_wp2_with fail
          rw[<-EV.out,<-EB.out];clear EV EB;refine R.out.mono ?_;rintro e w6 ⟨_,m2,t2,rfl,⟨rfl,hm⟩,D,N,hs⟩;have h7:=hid (Sim.cntL f7.out hs);have j4:m2<=100000:=zoz hm N.few;have E2:=hid (E1.out.read D N);have f9:=hid (QW.out.step (Kd.keeps kInt) (HiX.low ((HiX.refl wo.heap.size ab V5).hi (Hi.rn D d4.out) (zos _))));clear R D N hs hm QW f7 E1;obtain⟨C2,eC2⟩:∃C,C=w6.heap.size:=⟨_,rfl⟩;have c9:Hid (p<C2/\ab<C2/\wo.heap.size<=C2/\C2<=w6.heap.size/\w6.heap.size<=C2):=by have h1:=E2.out.box.lt;have h2:=E2.out.rn.size;have h3:=d4.out;show _/\_;omega
          have d8:Hid (RowS kOp 59 C2 [] ⟨none,0,0⟩ w6):=RowS.nil _ _ c9.out.2.2.2.1;have d7:=hid (Sim.loop0 t2 (qc zs) m2);have h8:=hid (HiX.refl wo.heap.size ab w6);clear eC2;go_wp2;go_loopw [10] (fun q wr=>∃(j:Nat) (X2:List DeedX) (S2:List OpD) (a1:QSl) (t3:Except (Int × Int) Nat),q=.int .i64 j/\Hid (j<=m2/\X2.length=j)/\Hid (RowS kOp 59 C2 S2 a1 wr)/\Hid (S2.map OpD.p=X2.map zpS)/\Hid (TSt p a c zs 56 ab wo t3 [.slice qw.a qw.n qw.c,.slice a1.a a1.n a1.c] wr)/\Hid (HiX wo.heap.size ab w6 wr)/\Hid (Sim t2 (fun t=>xh (qc zs) m2 t) t3 fun t=>y7 (xk X2 (xh (qc zs) (m2-j) t)) fun l u=>.ok (l,u))) (fun q _=>m2-(intOf q).toNat)
          case atStart=>exact⟨0,[],[],⟨none,0,0⟩,t2,rfl,⟨zon _,rfl⟩,d8,rfl,E2,h8,d7⟩
          case round=>
           clear d8 h8 d7 E2;obtain⟨j,X2,S2,a1,t3,rfl,HJ,d0,d1,a9,HX,d5⟩:=hrel;have HO:=hid (tok a9.out.tk);go_upto_region 20 with fail
           go_cut [75]from 69 to 75 (fun v wc=>v=.bool (decide (j<m2)&&okE t3)/\wr=wc)
           case first=>
            by_cases F:j<m2
            ·have c3:(j:Int)<(m2:Int):=by omega
             go_wp2_with fail
             refine HO.out.mono ?_;rintro e w2 ⟨rfl,rfl⟩;go_wp2_with fail
             go_meet
             exact⟨by simp[F],rfl⟩
            ·have c3:¬(j:Int)<(m2:Int):=by omega
             go_wp2_with fail
             go_meet
             exact⟨by simp[F],rfl⟩
           case rest=>
            obtain⟨rfl,rfl⟩:=hcut;clear HO;cases I:(decide (j<m2)&&okE t3)
            ·have L:=zpy I;have f5:=hid (Sim.next h7.out (d5.out.done L));have QO:=QRow.cov d0.out.fin.1 (Kd.covs kOp) (qq wr c9.out.2.2.1);have QI:=QRow.cov (QRow.step f9.out (Kd.keeps kInt) HX.out.low) (Kd.covs kInt) (jt _ fun b hb=>(.inl hb:b<wo.heap.size\/b=ab))
             obtain⟨d,ed⟩:∃d:ActD,d=⟨qw,Lw,a1,S2⟩:=⟨_,rfl⟩;have hi:kAct.inn d (mask (fun b=>b<wo.heap.size) (fun _=>Classical.propDecidable _) wr):=by rw[ed];exact⟨⟨NW.out,d0.out.fin.2.1⟩,zad QI,QO⟩
             have hp:ActD.p d=zqW ⟨xw,X2⟩:=by rw[ed];show(⟨Lw,S2.map OpD.p⟩:PAct)=⟨xw,X2.map zpS⟩;rw[d1.out,show Lw=xw from(List.map_id _).symm.trans (PW.out.trans (List.map_id _))]
             have g3:qw=d.w:=by rw[ed]
             have g8:a1=d.ops:=by rw[ed]
             have d2:=T.out.read a9.out.rn a9.out.tk;have a0:=HI.out;have B3:=ze (o:=.cells (kAct.cells d).toArray 56) (zof wr.heap.size wr);obtain⟨g,Y,J,en,row,hb⟩:=RowS.push 25 Tryz.underlying25 Tryz.infoAction rfl (by decide) P.out ((Hi.rn a9.out.rn M.out.1).trans (Hi.of B3)) (zoz M.out.2.2.2.2.2 Q.out.size) (x:=d) (kAct.step hi (Hi.low (Hi.of B3) (zos _))) (ad:=⟨wr.heap.size,0,none⟩) (c:=1) zbH (by have h1:=P.out.len;have h2:=congrArg List.length E.out;rw[zoE,zoE]at h2;omega)
             have S6:=d2.step B3;have S7:=S6.far hb M.out.2.2.1;have c0:=a9.out.box.cell (i:=0) rfl;have c1:=a9.out.box.cell (i:=1) rfl;have j6:=a9.out.box.lt;have b3:=d2.box.cell (i:=3) rfl;have l0:=d2.box.lt;have c4:=S7.box.cell (i:=3) rfl;have z7:=S7.box.fz 3;have l7:=S7.box.lt;have J:(Builtin.append_ #[25,25] 25 #[.slice sl.a sl.n sl.c,.slice (some ⟨wr.heap.size,0,none⟩) 1 1]).run Tryz.prog (wr.alloc (.cells #[.slice qw.a qw.n qw.c,.slice a1.a a1.n a1.c] 56))=.ok (.slice g.a g.n g.c) Y:=by rw[g3,g8];exact J
             have b7:=hid (HM.out.elem F f5.out);have c2:Hid (TS2 p a c zs 29 rb bx w t3 [.slice none 0 0,.slice none 0 0,.slice none 0 0,.slice none 0 0,.slice none 0 0,.slice none 0 0,.slice none 0 0] [.slice q1r.a q1r.n q1r.c,.slice q2.a q2.n q2.c,.slice q3r.a q3r.n q3r.c,Value.slice g.a g.n g.c,.slice none 0 0,.slice none 0 0,.slice none 0 0] (Y.setCell ⟨bx,3,none⟩ (.slice g.a g.n g.c))):=S7.put 3 (.slice g.a g.n g.c);have c6:Hid (Hi B0 WL4 (Y.setCell ⟨bx,3,none⟩ (.slice g.a g.n g.c))):=(((Q.out.trans (Hi.rn a9.out.rn m.out.1)).trans (Hi.of B3)).far hb M.out.2.2.2.2.1).put m.out.2.2 3 (.slice g.a g.n g.c);have b8:Hid (RowS kAct 56 C (S++[d]) g (Y.setCell ⟨bx,3,none⟩ (.slice g.a g.n g.c))):=row.keep ((Hi.refl C Y).put M.out.2.2.1 3 (.slice g.a g.n g.c));have Z:Hid ((S++[d]).map ActD.p=(X++[(⟨xw,X2⟩:ActX)]).map zqW):=by show _=_;rw[List.map_append,List.map_append,E.out];exact congrArg (fun y=>X.map zqW++[y]) hp
             have b9:Hid (i+1<=m4/\(X++[(⟨xw,X2⟩:ActX)]).length=i+1):=⟨F,by rw[List.length_append,a0.2];rfl⟩
             clear L h7 f5 QO QI ed hi hp g3 g8 d2 a0 B3 en row hb S6 S7 d5 a9 HX HJ d0 d1 NW PW f9 T Q HI HM E P d4 c9;go_wp2_with (first|fail|(at_builtin;refine yg rfl _ _ rfl rfl rfl J ?_))
             go_roundw
             case rel=>exact⟨i+1,X++[⟨xw,X2⟩],S++[d],g,t3,by go_num,b9,b8,Z,c2,c6,b7⟩
             case measure=>simp[intOf];omega
            ·have d6:=zpP I;clear I;have BD:Hid (Below wr.heap.size wr wr.drew):=⟨rfl,rfl,rfl,zos _,fun _ _=>rfl⟩
             have SD:=hid (a9.out.step BD.out);have R:=hid (zvg SD.out.tk);have a3:=SD.out.box.cell (i:=1) rfl;have c7:=SD.out.box.lt;go_upto_region 22 with fail
             refine zde 6 (by kernel_rfl) (by kernel_rfl) ?_
             refine wpAny_of_held (S:=(fun w'=>w'.cell? ⟨ab,1,none⟩=some (.slice a1.a a1.n a1.c))) _ _ _ _ ?_
             have A:(fun w'=>w'.cell? ⟨ab,1,none⟩=some (.slice a1.a a1.n a1.c)) wr.drew:=a3
             refine wpAnyH_take (i:=0) (v:=?_) (jL rfl) (by kernel_rfl) (by kernel_rfl) (by kernel_rfl) (fun _ _ _ h=>h) (Or.inl ⟨by rfl,?_⟩) A ?_
             rotate_left
             ·intro w0 G;try dsimp only at G
              go_simp
              try with_reducible rfl
             try simp only[Act.put,List.setIfInBounds_toArray,List.set_cons_zero,List.set_cons_succ]
             refine wpAnyH_take (i:=1) (v:=?_) (jL rfl) (by kernel_rfl) (by kernel_rfl) (by kernel_rfl) (fun _ _ _ h=>h) (Or.inl ⟨by rfl,?_⟩) A ?_
             rotate_left
             ·intro w0 G;try dsimp only at G
              go_simp
              try with_reducible rfl
             try simp only[Act.put,List.setIfInBounds_toArray,List.set_cons_zero,List.set_cons_succ]
             refine wpAnyH_take (i:=2) (v:=?_) (jL rfl) (by kernel_rfl) (by kernel_rfl) (by kernel_rfl) (fun _ _ _ h=>h) (Or.inl ⟨by rfl,?_⟩) A ?_
             rotate_left
             ·intro w0 G;try dsimp only at G
              go_simp
              try with_reducible rfl
             try simp only[Act.put,List.setIfInBounds_toArray,List.set_cons_zero,List.set_cons_succ]
             refine wpAnyH_ready (rs:=[3]) (by kernel_rfl) (by simp) ?_
             refine AllReadyH.cons (jL rfl) (fun K O=>?_) AllReadyH.nil
             go_simp
             go_at_call 78
             refine R.out.mono ?_;rintro e w8 ⟨_,x,t4,rfl,⟨d,hv,hi,hp⟩,D,N,hs⟩;obtain rfl:_=Value.agg #[.int .i64 d.kind,.int .i64 d.r.h,.int .i64 d.r.f,.int .i64 d.head,.slice d.e.a d.e.n d.e.c]:=hv;have a0:=HJ.out;have S5:=SD.out.read D N;have B3:=ze (o:=.cells [.int .i64 d.kind,.int .i64 d.r.h,.int .i64 d.r.f,.int .i64 d.head,.slice d.e.a d.e.n d.e.c].toArray 59) (zof w8.heap.size w8);obtain⟨g,w9,J,en,row,hb⟩:=RowS.push 54 Tryz.underlying54 Tryz.infoOp rfl (by decide) d0.out (((Hi.of BD.out).trans (Hi.rn D c9.out.1)).trans (Hi.of B3)) (zoz c9.out.2.2.2.1 HX.out.size) (x:=d) (kOp.step hi (Hi.low (Hi.of B3) (zos _))) (ad:=⟨w8.heap.size,0,none⟩) (c:=1) zbH (by have h1:=d0.out.len;have h2:=congrArg List.length d1.out;rw[zoE,zoE]at h2;omega)
             have S6:=S5.step B3;have S7:=S6.far hb c9.out.2.1;have a2:=S5.box.cell (i:=1) rfl;have a4:=S6.box.cell (i:=1) rfl;have c4:=S7.box.cell (i:=1) rfl;have z7:=S7.box.fz 1;have l7:=S7.box.lt;have b7:=hid (d5.out.elem d6 hs);have c2:Hid (TSt p a c zs 56 ab wo t4 [.slice qw.a qw.n qw.c,.slice g.a g.n g.c] (w9.setCell ⟨ab,1,none⟩ (.slice g.a g.n g.c))):=S7.put 1 (.slice g.a g.n g.c);have i8:Hid (HiX wo.heap.size ab w6 (w9.setCell ⟨ab,1,none⟩ (.slice g.a g.n g.c))):=(((((HX.out.hi (Hi.of BD.out) (zos _)).hi (Hi.rn D d4.out) (zos _)).hi (Hi.of B3) (zos _)).far hb c9.out.2.2.2.2)).put 1 (.slice g.a g.n g.c);have b8:Hid (RowS kOp 59 C2 (S2++[d]) g (w9.setCell ⟨ab,1,none⟩ (.slice g.a g.n g.c))):=row.keep ((Hi.refl C2 w9).put c9.out.2.1 1 (.slice g.a g.n g.c));have Z:Hid ((S2++[d]).map OpD.p=(X2++[x]).map zpS):=by show _=_;rw[List.map_append,List.map_append,d1.out];exact congrArg (fun y=>X2.map zpS++[y]) hp
             have b9:Hid (j+1<=m2/\(X2++[x]).length=j+1):=⟨d6,by rw[List.length_append,a0.2];rfl⟩
             clear R hs N D S5 S6 S7 SD BD en row hb B3 a0 d0 a9 HX d5 HJ d1 hi hp;refine O.out _ _ a2 (fun A=>?_)
             clear O K;try simp only[List.setIfInBounds_toArray]
             refine wpAnyH_ready (rs:=[4]) (by kernel_rfl) (by simp) ?_
             refine AllReadyH.cons (jL rfl) (fun K O=>?_) AllReadyH.nil
             go_simp
             refine O.out _ _ a4 (fun A=>?_)
             clear O K;try simp only[List.setIfInBounds_toArray]
             refine wpAnyH_ready (rs:=[5]) (by kernel_rfl) (by simp) ?_
             refine AllReadyH.cons (jL rfl) (fun K O=>?_) AllReadyH.nil
             refine zac rfl _ _ rfl (by simp[Act.eval]) (by simp[Act.eval]) J ?_
             refine O.out _ _ c4 (fun A=>?_)
             clear O K;try simp only[List.setIfInBounds_toArray]
             refine wpAnyH_done (by kernel_rfl) ?_ _
             dsimp only[zbv];clear A J a3 a2 a4 c7;go_wp2;go_roundw
             case rel=>exact⟨j+1,X2++[x],S2++[d],g,t4,by go_num,b9,b8,Z,c2,i8,b7⟩
             case measure=>simp[intOf];omega
      ·have F:=zpP I;clear I;have BD:Hid (Below wr.heap.size wr wr.drew):=⟨rfl,rfl,rfl,zos _,fun _ _=>rfl⟩
       have SD:=hid (T.out.step BD.out);have R:=hid (zu2 SD.out.st.tk);have a3:=SD.out.box.cell (i:=2) rfl;have c7:=SD.out.box.lt;go_upto_region 12 with fail
       refine zde 6 (by kernel_rfl) (by kernel_rfl) ?_
       refine wpAny_of_held (S:=(fun w'=>w'.cell? ⟨bx,2,none⟩=some (.slice sl.a sl.n sl.c))) _ _ _ _ ?_
       have A:(fun w'=>w'.cell? ⟨bx,2,none⟩=some (.slice sl.a sl.n sl.c)) wr.drew:=a3
       refine wpAnyH_take (i:=0) (v:=?_) (jL rfl) (by kernel_rfl) (by kernel_rfl) (by kernel_rfl) (fun _ _ _ h=>h) (Or.inl ⟨by rfl,?_⟩) A ?_
       rotate_left
       ·intro w0 G;try dsimp only at G
        go_simp
        try with_reducible rfl
       try simp only[Act.put,List.setIfInBounds_toArray,List.set_cons_zero,List.set_cons_succ]
       refine wpAnyH_take (i:=1) (v:=?_) (jL rfl) (by kernel_rfl) (by kernel_rfl) (by kernel_rfl) (fun _ _ _ h=>h) (Or.inl ⟨by rfl,?_⟩) A ?_
       rotate_left
       ·intro w0 G;try dsimp only at G
        go_simp
        try with_reducible rfl
       try simp only[Act.put,List.setIfInBounds_toArray,List.set_cons_zero,List.set_cons_succ]
       refine wpAnyH_take (i:=2) (v:=?_) (jL rfl) (by kernel_rfl) (by kernel_rfl) (by kernel_rfl) (fun _ _ _ h=>h) (Or.inl ⟨by rfl,?_⟩) A ?_
       rotate_left
       ·intro w0 G;try dsimp only at G
        go_simp
        try with_reducible rfl
       try simp only[Act.put,List.setIfInBounds_toArray,List.set_cons_zero,List.set_cons_succ]
       refine wpAnyH_ready (rs:=[3]) (by kernel_rfl) (by simp) ?_
       refine AllReadyH.cons (jL rfl) (fun K O=>?_) AllReadyH.nil
       go_simp
       go_at_call 77
       refine R.out.mono ?_;rintro e w5 ⟨_,x,s3,rfl,⟨d,hv,hi,hp⟩,D,N,hs⟩;obtain rfl:_=Value.agg #[.int .i64 d.head,.int .i64 d.r.h,.int .i64 d.r.f,.slice d.cases.a d.cases.n d.cases.c,.int .i64 d.els]:=hv;have a0:=HI.out;have S5:=SD.out.read D N;have B3:=ze (o:=.cells [.int .i64 d.head,.int .i64 d.r.h,.int .i64 d.r.f,.slice d.cases.a d.cases.n d.cases.c,.int .i64 d.els].toArray 51) (zof w5.heap.size w5);obtain⟨g,Y,J,en,row,hb⟩:=RowS.push 24 Tryz.underlying24 Tryz.infoState rfl (by decide) P.out (((Hi.of BD.out).trans (Hi.rn D M.out.1)).trans (Hi.of B3)) (zoz M.out.2.2.2.2.2 Q.out.size) (x:=d) (kState.step hi (Hi.low (Hi.of B3) (zos _))) (ad:=⟨w5.heap.size,0,none⟩) (c:=1) zbH (by have h1:=P.out.len;have h2:=congrArg List.length E.out;rw[zoE,zoE]at h2;omega)
       have S6:=S5.step B3;have S7:=S6.far hb M.out.2.2.1;have a2:=S5.box.cell (i:=2) rfl;have a4:=S6.box.cell (i:=2) rfl;have c4:=S7.box.cell (i:=2) rfl;have z7:=S7.box.fz 2;have l7:=S7.box.lt;have b7:=hid (HM.out.elem F hs);have c2:Hid (TS2 p a c zs 29 rb bx w s3 [.slice none 0 0,.slice none 0 0,.slice none 0 0,.slice none 0 0,.slice none 0 0,.slice none 0 0,.slice none 0 0] [.slice q1r.a q1r.n q1r.c,.slice q2.a q2.n q2.c,.slice g.a g.n g.c,.slice none 0 0,.slice none 0 0,.slice none 0 0,.slice none 0 0] (Y.setCell ⟨bx,2,none⟩ (.slice g.a g.n g.c))):=S7.put 2 (.slice g.a g.n g.c);have c6:Hid (Hi B0 WL3 (Y.setCell ⟨bx,2,none⟩ (.slice g.a g.n g.c))):=(((((Q.out.trans (Hi.of BD.out)).trans (Hi.rn D m.out.1)).trans (Hi.of B3)).far hb M.out.2.2.2.2.1)).put m.out.2.2 2 (.slice g.a g.n g.c);have b8:Hid (RowS kState 51 C (S++[d]) g (Y.setCell ⟨bx,2,none⟩ (.slice g.a g.n g.c))):=row.keep ((Hi.refl C Y).put M.out.2.2.1 2 (.slice g.a g.n g.c));have Z:Hid ((S++[d]).map StateD.p=(X++[x]).map zpL):=by show _=_;rw[List.map_append,List.map_append,E.out];exact congrArg (fun y=>X.map zpL++[y]) hp
       have b9:Hid (i+1<=m3/\(X++[x]).length=i+1):=⟨F,by rw[List.length_append,a0.2];rfl⟩
       clear R hs N D S5 S6 S7 SD BD en row hb B3 a0 P T Q HM HI E hi hp;refine O.out _ _ a2 (fun A=>?_)
       clear O K;try simp only[List.setIfInBounds_toArray]
       refine wpAnyH_ready (rs:=[4]) (by kernel_rfl) (by simp) ?_
       refine AllReadyH.cons (jL rfl) (fun K O=>?_) AllReadyH.nil
       go_simp
       refine O.out _ _ a4 (fun A=>?_)
       clear O K;try simp only[List.setIfInBounds_toArray]
       refine wpAnyH_ready (rs:=[5]) (by kernel_rfl) (by simp) ?_
       refine AllReadyH.cons (jL rfl) (fun K O=>?_) AllReadyH.nil
       refine zac rfl _ _ rfl (by simp[Act.eval]) (by simp[Act.eval]) J ?_
       refine O.out _ _ c4 (fun A=>?_)
       clear O K;try simp only[List.setIfInBounds_toArray]
       refine wpAnyH_done (by kernel_rfl) ?_ _
       dsimp only[zbv];clear A J a3 a2 a4 c7;go_wp2;go_roundw
       case rel=>exact⟨i+1,X++[x],S++[d],g,s3,by go_num,b9,b8,Z,c2,c6,b7⟩
       case measure=>simp[intOf];omega
   ·have F:=zpP I;clear I;have BD:Hid (Below wr.heap.size wr wr.drew):=⟨rfl,rfl,rfl,zos _,fun _ _=>rfl⟩
    have SD:=hid (T.out.step BD.out);have R:=hid (zrV SD.out.st.tk);have a3:=SD.out.box.cell (i:=0) rfl;have c7:=SD.out.box.lt;go_upto_region 6 with fail
    refine zde 7 (by kernel_rfl) (by kernel_rfl) ?_
    refine wpAny_of_held (S:=(fun w'=>w'.cell? ⟨bx,0,none⟩=some (.slice sl.a sl.n sl.c))) _ _ _ _ ?_
    have A:(fun w'=>w'.cell? ⟨bx,0,none⟩=some (.slice sl.a sl.n sl.c)) wr.drew:=a3
    refine wpAnyH_take (i:=0) (v:=?_) (jL rfl) (by kernel_rfl) (by kernel_rfl) (by kernel_rfl) (fun _ _ _ h=>h) (Or.inl ⟨by rfl,?_⟩) A ?_
    rotate_left
    ·intro w0 G;try dsimp only at G
     go_simp
     try with_reducible rfl
    try simp only[Act.put,List.setIfInBounds_toArray,List.set_cons_zero,List.set_cons_succ]
    refine wpAnyH_take (i:=1) (v:=?_) (jL rfl) (by kernel_rfl) (by kernel_rfl) (by kernel_rfl) (fun _ _ _ h=>h) (Or.inl ⟨by rfl,?_⟩) A ?_
    rotate_left
    ·intro w0 G;try dsimp only at G
     go_simp
     try with_reducible rfl
    try simp only[Act.put,List.setIfInBounds_toArray,List.set_cons_zero,List.set_cons_succ]
    refine wpAnyH_take (i:=2) (v:=?_) (jL rfl) (by kernel_rfl) (by kernel_rfl) (by kernel_rfl) (fun _ _ _ h=>h) (Or.inl ⟨by rfl,?_⟩) A ?_
    rotate_left
    ·intro w0 G;try dsimp only at G
     go_simp
     try with_reducible rfl
    try simp only[Act.put,List.setIfInBounds_toArray,List.set_cons_zero,List.set_cons_succ]
    refine wpAnyH_ready (rs:=[3]) (by kernel_rfl) (by simp) ?_
    refine AllReadyH.cons (jL rfl) (fun K O=>?_) AllReadyH.nil
    go_simp
    go_at_call 76
    refine R.out.mono ?_;rintro e w5 ⟨_,x,s3,rfl,⟨q9,L9,rfl,hq,hz,hc,hp⟩,D,N,hs⟩;obtain⟨d,ed⟩:∃d:HeadD,d=⟨q9,L9⟩:=⟨_,rfl⟩;have hi:kHead.inn d (mask (fun b=>b<wr.heap.size) (fun _=>Classical.propDecidable _) w5):=by rw[ed];exact⟨hz,zad hq⟩
    have hp:HeadD.ws d=id x:=by rw[ed];exact(List.map_id _).symm.trans (hp.trans (List.map_id _))
    have i9:q9=d.w:=by rw[ed]
    subst i9;clear ed hq hz hc;have a0:=HI.out;have S5:=SD.out.read D N;have B3:=ze (o:=.cells [.slice d.w.a d.w.n d.w.c].toArray 53) (zof w5.heap.size w5);obtain⟨g,Y,J,en,row,hb⟩:=RowS.push 22 Tryz.underlying22 Tryz.infoHeader rfl (by decide) P.out (((Hi.of BD.out).trans (Hi.rn D M.out.1)).trans (Hi.of B3)) (zoz M.out.2.2.2.2.2 Q.out.size) (x:=d) (kHead.step hi (Hi.low (Hi.of B3) (zos _))) (ad:=⟨w5.heap.size,0,none⟩) (c:=1) zbH (by have h1:=P.out.len;have h2:=congrArg List.length E.out;rw[zoE,zoE]at h2;omega)
    have S6:=S5.step B3;have S7:=S6.far hb M.out.2.2.1;have a2:=S5.box.cell (i:=0) rfl;have a4:=S6.box.cell (i:=0) rfl;have c4:=S7.box.cell (i:=0) rfl;have z7:=S7.box.fz 0;have l7:=S7.box.lt;have b7:=hid (HM.out.elem F hs);have c2:Hid (TS2 p a c zs 29 rb bx w s3 [.slice none 0 0,.slice none 0 0,.slice none 0 0,.slice none 0 0,.slice none 0 0,.slice none 0 0,.slice none 0 0] [.slice g.a g.n g.c,.slice none 0 0,.slice none 0 0,.slice none 0 0,.slice none 0 0,.slice none 0 0,.slice none 0 0] (Y.setCell ⟨bx,0,none⟩ (.slice g.a g.n g.c))):=S7.put 0 (.slice g.a g.n g.c);have c6:Hid (Hi B0 WL1 (Y.setCell ⟨bx,0,none⟩ (.slice g.a g.n g.c))):=(((((Q.out.trans (Hi.of BD.out)).trans (Hi.rn D m.out.1)).trans (Hi.of B3)).far hb M.out.2.2.2.2.1)).put m.out.2.2 0 (.slice g.a g.n g.c);have b8:Hid (RowS kHead 53 C (S++[d]) g (Y.setCell ⟨bx,0,none⟩ (.slice g.a g.n g.c))):=row.keep ((Hi.refl C Y).put M.out.2.2.1 0 (.slice g.a g.n g.c));have Z:Hid ((S++[d]).map HeadD.ws=(X++[x]).map id):=by show _=_;rw[List.map_append,List.map_append,E.out];exact congrArg (fun y=>X.map id++[y]) hp
    have b9:Hid (i+1<=m1/\(X++[x]).length=i+1):=⟨F,by rw[List.length_append,a0.2];rfl⟩
    clear R hs N D S5 S6 S7 SD BD en row hb B3 a0 P T Q HM HI E hi hp;refine O.out _ _ a2 (fun A=>?_)
    clear O K;try simp only[List.setIfInBounds_toArray]
    refine wpAnyH_ready (rs:=[4]) (by kernel_rfl) (by simp) ?_
    refine AllReadyH.cons (jL rfl) (fun K O=>?_) AllReadyH.nil
    go_simp
    refine O.out _ _ a2 (fun A=>?_)
    clear O K;try simp only[List.setIfInBounds_toArray]
    refine wpAnyH_ready (rs:=[5]) (by kernel_rfl) (by simp) ?_
    refine AllReadyH.cons (jL rfl) (fun K O=>?_) AllReadyH.nil
    go_simp
    refine O.out _ _ a4 (fun A=>?_)
    clear O K;try simp only[List.setIfInBounds_toArray]
    refine wpAnyH_ready (rs:=[6]) (by kernel_rfl) (by simp) ?_
    refine AllReadyH.cons (jL rfl) (fun K O=>?_) AllReadyH.nil
    refine zac rfl _ _ rfl (by simp[Act.eval]) (by simp[Act.eval]) J ?_
    refine O.out _ _ c4 (fun A=>?_)
    clear O K;try simp only[List.setIfInBounds_toArray]
    refine wpAnyH_done (by kernel_rfl) ?_ _
    dsimp only[zbv];clear A J a3 a2 a4 c7;go_wp2;go_roundw
    case rel=>exact⟨i+1,X++[x],S++[d],g,s3,by go_num,b9,b8,Z,c2,c6,b7⟩
    case measure=>simp[intOf];omega
def zq8(zs:List Int)(w:World)(e:Ending)(w':World):Prop:=Below w.heap.size w w'/\match zps zs with
 |.error (C,A)=>e=.returned (.tuple #[zpv,.agg #[.int .i64 C,.int .i64 A]])
 |.ok x=>∃d:PlanD,d.lie w'/\d.p=zp0 x/\e=.returned (.tuple #[d.v,.agg #[.int .i64 0,.int .i64 0]])
theorem zsf{zs:List Int}(h:7<=zs.length):zs.take 3=[zs.getD 0 0,zs.getD 1 0,zs.getD 2 0]:=by
 match zs,h with
 |a::b::c::l,_=>rfl
theorem zsS{zs:List Int}{m:Nat}(h:zs.length=m+4):zs.drop m=[zs.getD m 0,zs.getD (m+1) 0,zs.getD (m+2) 0,zs.getD (m+3) 0]:=by
 refine List.ext_getElem? fun i=>?_
 rw[List.getElem?_drop];match i with
 |0=>simp[zoi,zoh (show m<zs.length by omega)]
 |1=>simp[zoi,zoh (show m+1<zs.length by omega)]
 |2=>simp[zoi,zoh (show m+2<zs.length by omega)]
 |3=>simp[zoi,zoh (show m+3<zs.length by omega)]
 |i+4=>rw[List.getElem?_eq_none (by omega)];rfl
theorem zqR{zs:List Int}{C A:Int}(h:zo1 zs=(C,A))(a:C≠0):zps zs=.error (C,A):=by
 unfold zps;rw[h,if_pos a]
theorem zsB{d:PlanD}{w w':World}(h:d.lie w)(c:Cov w w'):d.lie w':=⟨h.hs.cov (Kd.covs kHead) c,h.ms.cov c,h.ss.cov (Kd.covs kState) c,h.al.cov (Kd.covs kAct) c,h.ts.cov (Kd.covs kTab) c,h.ns.cov (Kd.covs kNode) c,h.os.cov c,h.oc⟩
theorem zsC{x:PlanX}{M:Nat}(h:x.few M)(a:M<=10000):(zp0 x).mid:=by
 refine⟨zoz h.hs.1 a,zoz h.ms a,?_,?_,?_,?_,zoz h.os a,fun y b=>zoz (h.hs.2 y b) a,?_,?_,?_,?_,?_⟩
 ·show(x.states.map zpL).length<=_;rw[zoE];exact zoz h.ss.1 a
 ·show(x.acts.map zqW).length<=_;rw[zoE];exact zoz h.al.1 a
 ·show(x.tabs.map zqL).length<=_;rw[zoE];exact zoz h.ts.1 a
 ·show(x.nodes.map zp3).length<=_;rw[zoE];exact zoz h.ns.1 a
 ·intro y b;obtain⟨z,hz,rfl⟩:=zoJ.1 b;show(z.cs.map zqe).length<=_;rw[zoE];exact zoz (h.ss.2 z hz) a
 ·intro y b;obtain⟨z,hz,rfl⟩:=zoJ.1 b;refine⟨zoz (h.al.2 z hz).1 a,?_⟩;show(z.ops.map zpS).length<=_;rw[zoE];exact zoz (h.al.2 z hz).2.1 a
 ·intro y b o c;obtain⟨z,hz,rfl⟩:=zoJ.1 b;obtain⟨q,d,rfl⟩:=zoJ.1 c;exact zoz ((h.al.2 z hz).2.2 q d) a
 ·intro y b;obtain⟨z,hz,rfl⟩:=zoJ.1 b;refine⟨?_,zoz (h.ts.2 z hz).2.1 a,zoz (h.ts.2 z hz).2.2 a⟩;show(z.keys.map zqu).length<=_;rw[zoE];exact zoz (h.ts.2 z hz).1 a
 ·intro y b;obtain⟨z,hz,rfl⟩:=zoJ.1 b;exact zoz (h.ns.2 z hz) a
theorem zux(a:Option Addr)(n c:Nat)(zs:List Int)(w:World)(hn:n<=10000000)(e6:n<=c)(hz:Has .u8 w a n zs):Calls Tryz.prog 10 #[.slice a n c] w (zq8 zs w):=by
 obtain⟨D,hW⟩:∃D,D=(w.alloc (.cells #[.slice none 0 0,.slice none 0 0,.slice none 0 0,.slice none 0 0,.slice none 0 0,.slice none 0 0,.slice none 0 0] 29)).alloc (.cells #[.int .i64 0,.int .i64 0] 35):=⟨_,rfl⟩;obtain⟨pb,epb⟩:∃b,b=w.heap.size:=⟨_,rfl⟩;obtain⟨fb,efb⟩:∃b,b=w.heap.size+1:=⟨_,rfl⟩;have e4:D.heap.size=w.heap.size+2:=by rw[hW];simp
 have b1:Below w.heap.size w D:=by rw[hW];exact ze (ze (zof _ _))
 have g2:D.heap[pb]?=some (.cells #[.slice none 0 0,.slice none 0 0,.slice none 0 0,.slice none 0 0,.slice none 0 0,.slice none 0 0,.slice none 0 0] 29 (0,0)):=by rw[hW,epb];show((w.heap.push _).push _)[w.heap.size]?=_;rw[Array.getElem?_push,if_neg (by simp),Array.getElem?_push_size]
 have e2:D.heap[fb]?=some (.cells #[.int .i64 0,.int .i64 0] 35 (0,0)):=by rw[hW,efb];show((w.heap.push _).push _)[w.heap.size+1]?=_;rw[Array.getElem?_push,if_pos (by simp)]
 have s:Hid (∀w',Below D.heap.size D w'->w'.cell? ⟨pb,0,none⟩=some (.slice none 0 0)/\w'.cell? ⟨pb,1,none⟩=some (.slice none 0 0)/\w'.cell? ⟨pb,2,none⟩=some (.slice none 0 0)/\w'.cell? ⟨pb,3,none⟩=some (.slice none 0 0)/\w'.cell? ⟨pb,4,none⟩=some (.slice none 0 0)/\w'.cell? ⟨pb,5,none⟩=some (.slice none 0 0)/\w'.cell? ⟨pb,6,none⟩=some (.slice none 0 0)/\w'.cell? ⟨fb,0,none⟩=some (.int .i64 0)/\w'.cell? ⟨fb,1,none⟩=some (.int .i64 0)/\w'.frozen? ⟨pb,0,none⟩=false/\w'.frozen? ⟨pb,1,none⟩=false/\w'.frozen? ⟨pb,2,none⟩=false/\w'.frozen? ⟨pb,3,none⟩=false/\w'.frozen? ⟨pb,4,none⟩=false/\w'.frozen? ⟨pb,5,none⟩=false/\w'.frozen? ⟨pb,6,none⟩=false/\w'.frozen? ⟨fb,0,none⟩=false/\w'.frozen? ⟨fb,1,none⟩=false/\pb<w'.heap.size/\fb<w'.heap.size):=fun w' hb=>by
  have U:=(hb.block pb (by omega)).trans g2
  have h2:=(hb.block fb (by omega)).trans e2
  have h3:=hb.size;simp only[World.cell?,World.frozen?,U,h2];exact⟨rfl,rfl,rfl,rfl,rfl,rfl,rfl,rfl,rfl,rfl,rfl,rfl,rfl,rfl,rfl,rfl,rfl,rfl,by omega,by omega⟩
 have c8:=hid b1;have a1:=hid e4;have a2:Hid (pb=w.heap.size/\fb=w.heap.size+1):=⟨epb,efb⟩;have E:Hid (∀w',Below D.heap.size D w'->∀v0 v1 v2 v3 v4 v5 v6 x y,Below w.heap.size w (((((((((w'.setCell ⟨pb,0,none⟩ (v0)).setCell ⟨pb,1,none⟩ (v1)).setCell ⟨pb,2,none⟩ (v2)).setCell ⟨pb,3,none⟩ (v3)).setCell ⟨pb,4,none⟩ (v4)).setCell ⟨pb,5,none⟩ (v5)).setCell ⟨pb,6,none⟩ (v6)).setCell ⟨fb,0,none⟩ (.int .i64 x)).setCell ⟨fb,1,none⟩ (.int .i64 y))):=fun w' hb v0 v1 v2 v3 v4 v5 v6 x y=>by
  have h:=zh b1 hb;exact((((((((h.setCell (by show w.heap.size<=pb;omega) v0).setCell (by show w.heap.size<=pb;omega) v1).setCell (by show w.heap.size<=pb;omega) v2).setCell (by show w.heap.size<=pb;omega) v3).setCell (by show w.heap.size<=pb;omega) v4).setCell (by show w.heap.size<=pb;omega) v5).setCell (by show w.heap.size<=pb;omega) v6).setCell (by show w.heap.size<=fb;omega) (.int .i64 x)).setCell (by show w.heap.size<=fb;omega) (.int .i64 y)
 have l:Hid (∀C A w',zps zs=.error (C,A)->Below D.heap.size D w'->zq8 zs w (.returned (.tuple #[zpv,.agg #[.int .i64 C,.int .i64 A]])) (((((((((w'.setCell ⟨pb,0,none⟩ (.slice none 0 0)).setCell ⟨pb,1,none⟩ (.slice none 0 0)).setCell ⟨pb,2,none⟩ (.slice none 0 0)).setCell ⟨pb,3,none⟩ (.slice none 0 0)).setCell ⟨pb,4,none⟩ (.slice none 0 0)).setCell ⟨pb,5,none⟩ (.slice none 0 0)).setCell ⟨pb,6,none⟩ (.slice none 0 0)).setCell ⟨fb,0,none⟩ (.int .i64 C)).setCell ⟨fb,1,none⟩ (.int .i64 A))):=fun C A w' hd hb=>⟨E.out w' hb _ _ _ _ _ _ _ _ _,by rw[hd]⟩
 have G:Hid (¬pb=fb/\¬fb=pb):=by show _/\_;omega
 have EW:=hid hW;have EP:=hid epb;have EF:=hid efb;have HZ:=hid hz;have M:=hid e6;have r:=hid hz.1;have T:=hid (fun x y w'=>zA x y w')
 have i8:Hid (∀(W:World) (k:Nat),Below W.heap.size W (W.drewN k)):=fun _ _=>⟨rfl,rfl,rfl,zos _,fun _ _=>rfl⟩
 clear hW epb efb e4 b1 g2 e2 hz e6;go_enter Tryz.func10,Tryz.ntmps10
 by_cases h7:n<7
 ·have e3:(n:Int)<7:=by omega
  have HD:Hid (zps zs=.error (3,(n:Int))):=zqR (by unfold zo1;rw[r.out,if_pos h7]) (by decide)
  go_wp2_with fail
  rw[<-EW.out,<-EF.out,<-EP.out];clear EW EP EF;refine(T.out _ _ _).mono ?_;rintro e u9 ⟨rfl,hb⟩;have f:=zh (zof _ _) hb;obtain⟨p0,p1,p2,p3,p4,p5,p6,g0,g1,z0,z1,z2,z3,z4,z5,z6,y0,y1,lp,lf⟩:=s.out u9 f;obtain⟨n1,n2⟩:=G.out;have O:=hid (l.out _ _ u9 HD.out f);clear hb f HD T s E l HZ M r;go_wp2;exact bodyPost_ret (v:=.tuple #[zpv,.agg #[.int .i64 (3),.int .i64 ((n:Int))]]) (by simp[results,Tryz.results10,go_sem, *]) rfl O.out
 have e3:¬(n:Int)<7:=by omega
 by_cases h8:8000<n
 ·have f7:(8000:Int)<(n:Int):=by omega
  have HD:Hid (zps zs=.error (14,8000)):=zqR (by unfold zo1;rw[r.out,if_neg h7,if_pos h8]) (by decide)
  go_wp2_with fail
  rw[<-EW.out,<-EF.out,<-EP.out];clear EW EP EF;refine(T.out _ _ _).mono ?_;rintro e u9 ⟨rfl,hb⟩;have f:=zh (zof _ _) hb;obtain⟨p0,p1,p2,p3,p4,p5,p6,g0,g1,z0,z1,z2,z3,z4,z5,z6,y0,y1,lp,lf⟩:=s.out u9 f;obtain⟨n1,n2⟩:=G.out;have O:=hid (l.out _ _ u9 HD.out f);clear hb f HD T s E l HZ M r;go_wp2;exact bodyPost_ret (v:=.tuple #[zpv,.agg #[.int .i64 (14),.int .i64 (8000)]]) (by simp[results,Tryz.results10,go_sem, *]) rfl O.out
 have f7:¬(8000:Int)<(n:Int):=by omega
 obtain⟨g,off,rfl,i6,a6⟩:=(HZ.out.step c8.out).some (by omega)
 have c0:=a6 0 (by omega)
 have c1:=a6 1 (by omega)
 have c2:=a6 2 (by omega)
 have H3:=hid (zsf (zs:=zs) (by rw[r.out];omega))
 have b5:Hid (zo1 zs=if zs.take 3≠[83,89,1]then(4,0)else if zs.drop (zs.length-4)≠Mth.four (Mth.crc (zs.take (zs.length-4)))then(19,((zs.length-4:Nat):Int))else(0,0)):=by show _=_;unfold zo1;rw[r.out,if_neg h7,if_neg h8]
 have hm:∃m,n=m+4:=⟨n-4,by omega⟩
 obtain⟨m,hm⟩:=hm;have HM:=hid hm;have d1:=hid a6;generalize g6:zs.getD 0 0=x0 at*;generalize i1:zs.getD 1 0=x1 at*;generalize i3:zs.getD 2 0=x2 at*;clear a6 hm g6 i1 i3;rw[Nat.add_zero]at c0;have o0:(0:Int)<(n:Int):=by omega
 have o1:(1:Int)<(n:Int):=by omega
 have o2:(2:Int)<(n:Int):=by omega
 go_upto_region 5 with fail
 rw[<-EW.out,<-EF.out,<-EP.out];clear EW EP EF;by_cases a3:x0=83/\x1=89/\x2=1
 ·obtain⟨rfl,rfl,rfl⟩:=a3;have Y:Hid (zo1 zs=if zs.drop m≠Mth.four (Mth.crc (zs.take m))then(19,(m:Int))else(0,0)):=by show _=_;rw[b5.out,if_neg (by rw[H3.out];simp),show zs.length-4=m by rw[r.out,HM.out];omega]
  have b6:=hid (zsS (zs:=zs) (m:=m) (by rw[r.out,HM.out]))
  obtain⟨P,eys⟩:∃P,P=zs.take m:=⟨_,rfl⟩;have e0:P.length=m:=by rw[eys,List.length_take,r.out,HM.out];omega
  have d2:Has .u8 D (some ⟨g,off,none⟩) m P:=by rw[eys];exact zqn (HZ.out.step c8.out) m (by rw[HM.out];omega)
  rw[<-eys]at Y;have d0:Hid (zps zs=if(zo1 zs).1≠0 then .error (zo1 zs)else match zpq P 3 with
   |.error e=>.error e
   |.ok (x,u)=>if u<P.length then .error (4,(u:Int))else if(zD (zp0 x)).1≠0 then .error (5,(P.length:Int))else .ok x):=by show _=_;unfold zps;rw[eys,show zs.length-4=m by rw[r.out,HM.out];omega];rfl
  have e8:=hid (zuS (some ⟨g,off,none⟩) m c P D (by have:=HM.out;omega) d2)
  have d3:=hid d2;have K:=hid e0;have f9:=HM.out;have Z:Hid (3<=m/\m<=8000/\(m:Int)+4=(n:Int)):=by show _/\_;omega
  have g4:IntKind.i64.wrap ((n:Int)-4)=(m:Int):=by rw[zX _ (by omega) (by omega)];omega
  have g3:(n:Int)-4=(m:Int):=by omega
  have g9:(m:Int)<=(c:Int):=by have:=M.out;omega
  have c6:=hid (zqH HZ.out);have a7:Hid (∀j,j<4->D.cell? ⟨g,off+(m+j),none⟩=some (.int .u8 (zs.getD (m+j) 0))):=fun j hj=>d1.out (m+j) (by omega)
  clear eys e0 d2 b5 H3 d1 f9 HM;go_wp2_with fail
  refine e8.out.mono ?_;rintro e u1 ⟨rfl,h9⟩;obtain rfl:D=u1:=h9.symm;obtain⟨S,hS⟩:∃S:Nat,S=Mth.crc P:=⟨_,rfl⟩;have Q:S<4294967296:=by rw[hS];exact Mth.crc_lt _
  rw[<-hS]at Y;rw[<-hS];have d9:=hid Q;clear hS e8 Q c0 c1 c2 o0 o1 o2 g4 g3;go_wp2;go_loopw [6] (fun q wr=>∃i:Nat,q=.int .i64 i/\Hid (i<=4)/\Hid (D=wr)/\Hid (∀j,j<i->zs.getD (m+j) 0=((S/2^(8*j)%256:Nat):Int))) (fun q _=>4-(intOf q).toNat)
  case atStart=>exact⟨0,rfl,zon _,rfl,fun j hj=>by omega⟩
  case round=>
   obtain⟨i,rfl,HI,c7,HQ⟩:=hrel;have c7:=c7.out;subst c7;by_cases d7:i<4
   ·have h6:(i:Int)<4:=by omega
    have f1:=a7.out i d7;have d6:0<=zs.getD (m+i) 0/\zs.getD (m+i) 0<256:=by
     have U:m+i<zs.length:=by have:=Z.out;have:=r.out;omega
     exact c6.out _ (by rw[zoi,zoh U];exact List.getElem_mem _)
    obtain⟨mi,hmi⟩:∃k:Nat,k=m+i:=⟨_,rfl⟩;have j1:IntKind.i64.wrap ((m:Int)+(i:Int))=(mi:Int):=by have:=Z.out;rw[zX _ (by omega) (by omega)];omega
    have f9:(mi:Int)<(n:Int):=by have:=Z.out;omega
    have b2:=hid hmi;rw[<-hmi]at f1 d6;obtain⟨y,hy⟩:∃y,y=zs.getD mi 0:=⟨_,rfl⟩;rw[<-hy]at f1 d6;have HY:=hid hy;obtain⟨qs,hq⟩:∃q,q=S/2^(8*i):=⟨_,rfl⟩;obtain⟨x,hx⟩:∃x,x=qs%256:=⟨_,rfl⟩;have cx:IntKind.u8.wrap (qs:Int)=(x:Int):=by rw[zqs];omega
    have b4:Hid (((S/2^(8*i)%256:Nat):Int)=(x:Int)):=by show _=_;rw[hx,hq]
    obtain⟨k,hk⟩:∃k,k=8*i:=⟨_,rfl⟩;have j4:IntKind.i64.wrap (8*(i:Int))=(k:Int):=by rw[zX _ (by omega) (by omega)];omega
    have j3:IntKind.u64.wrap (k:Int)=(k:Int):=by rw[IntKind.wrap_u64];omega
    have i9:k<32:=by omega
    have j0:(S:Int)/2^k=(qs:Int):=by rw[hq,hk];simp
    clear hmi hy hx d6 hq hk;by_cases b7:y=(x:Int)
    ·subst b7;have g8:Hid (∀j,j<i+1->zs.getD (m+j) 0=((S/2^(8*j)%256:Nat):Int)):=fun j hj=>by
      by_cases i0:j<i
      ·exact HQ.out j i0
      ·obtain rfl:j=i:=by omega
       rw[b4.out,<-b2.out];exact HY.out.symm
     clear HQ HY b4 b2;go_wp2;go_roundw
     case rel=>exact⟨i+1,by go_num,hid d7,by first|exact rfl|exact trivial,g8⟩
     case measure=>simp[intOf];omega
    ·have t:Hid (zps zs=.error (19,(m:Int))):=zqR (by rw[Y.out,if_pos (fun h=>b7 (by
      rw[HY.out,b2.out,<-b4.out];have h4:∀j,j<4->zs.getD (m+j) 0=((S/2^(8*j)%256:Nat):Int):=fun j hj=>by
       rw[b6.out]at h;simp only[Mth.four,List.cons.injEq,and_true]at h;match j,hj with
       |0,_=>simpa using h.1
       |1,_=>exact h.2.1
       |2,_=>exact h.2.2.1
       |3,_=>exact h.2.2.2
      exact h4 i d7))]) (by decide)
     have g7:(y !=(x:Int))=true:=by simpa using b7
     clear HQ HY b4 b2 b7 Y b6 d0 K d3 c6 a7 d9 Z c8 a1;skip
     have HD:Hid (zps zs=.error (19,(m:Int))):=t.out;go_wp2_with fail
     skip
     refine(T.out _ _ _).mono ?_;rintro e u9 ⟨rfl,hb⟩;have f:=zh (zof _ _) hb;obtain⟨p0,p1,p2,p3,p4,p5,p6,g0,g1,z0,z1,z2,z3,z4,z5,z6,y0,y1,lp,lf⟩:=s.out u9 f;obtain⟨n1,n2⟩:=G.out;have O:=hid (l.out _ _ u9 HD.out f);clear hb f HD T s E l HZ M r t;go_wp2;exact bodyPost_ret (v:=.tuple #[zpv,.agg #[.int .i64 (19),.int .i64 ((m:Int))]]) (by simp[results,Tryz.results10,go_sem, *]) rfl O.out
   ·have h6:¬(i:Int)<4:=by omega
    obtain rfl:i=4:=by have:=HI.out;omega
    have e7:Hid ((zo1 zs).1=0):=by
     have e:zs.drop m=Mth.four S:=by
      rw[b6.out];unfold Mth.four;have h0:=HQ.out 0 (by decide)
      have U:=HQ.out 1 (by decide)
      have h2:=HQ.out 2 (by decide)
      have h3:=HQ.out 3 (by decide)
      rw[Nat.add_zero]at h0;rw[h0,U,h2,h3];simp
     show(zo1 zs).1=0;rw[Y.out,if_neg (by rw[e];simp)]
    have J:Hid (zps zs=match zpq P 3 with
     |.error e=>.error e
     |.ok (x,u)=>if u<P.length then .error (4,(u:Int))else if(zD (zp0 x)).1≠0 then .error (5,(P.length:Int))else .ok x):=by show _=_;rw[d0.out,if_neg (by rw[e7.out];simp)]
    obtain⟨W2,eW2⟩:∃W,W=D.alloc (.cells #[.slice (some ⟨g,off,none⟩) m c,.int .i64 3,.int .i64 0,.int .i64 0] 86):=⟨_,rfl⟩;obtain⟨tb,etb⟩:∃b,b=D.heap.size:=⟨_,rfl⟩;have B2:Below D.heap.size D W2:=by rw[eW2];exact ze (zof _ _)
    have kc:∀(o:Nat) (v:Value),(#[.slice (some ⟨g,off,none⟩) m c,.int .i64 3,.int .i64 0,.int .i64 0]:Array Value)[o]?=some v->W2.cell? ⟨tb,o,none⟩=some v:=fun o v hv=>by rw[eW2,etb];exact(zod _ _ _ _ rfl).trans hv
    have kf:∀o,W2.frozen? ⟨tb,o,none⟩=false:=fun o=>by rw[eW2,etb];exact zoB _ _ _ _ rfl
    have g5:=Z.out;have f6:Tk tb (some ⟨g,off,none⟩) c P (.ok 3) W2:=by
     refine⟨?_,⟨3,kc 1 _ rfl,by rw[K.out];omega,fun u hu=>by cases hu;rfl⟩,kc 2 _ rfl,kc 3 _ rfl,kf 1,kf 2,kf 3,fun e he=>(by cases he),?_,by rw[K.out];omega,fun ad i5=>?_⟩
     ·rw[K.out];exact kc 0 _ rfl
     ·rw[K.out];exact d3.out.step B2
     ·obtain rfl:=zoq i5;rw[etb];exact i6
    have R:=hid (zvh f6);have a0:=hid B2;have f0:=hid eW2;have L:=hid etb;clear HQ Y b6 d0 e7 c6 a7 d9 d3 B2 kc kf f6 eW2 etb g5;go_wp2_with fail
    rw[<-f0.out,<-L.out];clear f0;refine R.out.mono ?_;rintro e w3 ⟨_,x,s9,rfl,⟨d,rfl,I,h5,hp⟩,hr,e5,hs⟩;dsimp only[PlanD.v];clear R;obtain⟨W4,eW4⟩:∃W,W=w3.alloc (.cells #[.slice d.heads.a d.heads.n d.heads.c,.slice d.mta.a d.mta.n d.mta.c,.slice d.states.a d.states.n d.states.c,.slice d.acts.a d.acts.n d.acts.c,.slice d.tabs.a d.tabs.n d.tabs.c,.slice d.nodes.a d.nodes.n d.nodes.c,.slice d.out.a d.out.n d.out.c] 29):=⟨_,rfl⟩;obtain⟨vb,evb⟩:∃b,b=w3.heap.size:=⟨_,rfl⟩;have B4:Below w3.heap.size w3 W4:=by rw[eW4];exact ze (zof _ _)
    have a5:=e5.step B4;have c4:Below D.heap.size D W4:=a0.out.trans ((hr.low (B:=D.heap.size) (by rw[L.out];exact zos _) a0.out.size).trans (B4.mono (zoz a0.out.size hr.size)))
    have f2:=hid (tok a5);have H:=hid c4;have N:=hid a5;have a8:=hid hs;have V:Hid (d.lie (mask (fun b=>b<W2.heap.size) (fun _=>Classical.propDecidable _) W4)):=I.step (Hi.low (Hi.of B4) (zos _))
    have HP:=hid hp;have d8:Hid (W2.heap.size<=vb):=by show _<=vb;rw[evb];exact hr.size
    have b8:Hid (W2.heap.size<=W4.heap.size):=zoz hr.size B4.size;have X:Hid (∀w',Below W4.heap.size W4 w'->w'.cell? ⟨vb,0,none⟩=some (.slice d.heads.a d.heads.n d.heads.c)/\w'.cell? ⟨vb,1,none⟩=some (.slice d.mta.a d.mta.n d.mta.c)/\w'.cell? ⟨vb,2,none⟩=some (.slice d.states.a d.states.n d.states.c)/\w'.cell? ⟨vb,3,none⟩=some (.slice d.acts.a d.acts.n d.acts.c)/\w'.cell? ⟨vb,4,none⟩=some (.slice d.tabs.a d.tabs.n d.tabs.c)/\w'.cell? ⟨vb,5,none⟩=some (.slice d.nodes.a d.nodes.n d.nodes.c)/\w'.cell? ⟨vb,6,none⟩=some (.slice d.out.a d.out.n d.out.c)):=fun w' hb=>by
     have k:∀(o:Nat) (v:Value),(#[.slice d.heads.a d.heads.n d.heads.c,.slice d.mta.a d.mta.n d.mta.c,.slice d.states.a d.states.n d.states.c,.slice d.acts.a d.acts.n d.acts.c,.slice d.tabs.a d.tabs.n d.tabs.c,.slice d.nodes.a d.nodes.n d.nodes.c,.slice d.out.a d.out.n d.out.c]:Array Value)[o]?=some v->w'.cell? ⟨vb,o,none⟩=some v:=fun o v hv=>za (by rw[eW4,evb];exact(zod _ _ _ _ rfl).trans hv) hb
     exact⟨k 0 _ rfl,k 1 _ rfl,k 2 _ rfl,k 3 _ rfl,k 4 _ rfl,k 5 _ rfl,k 6 _ rfl⟩
    have e9:=hid eW4;have f4:=hid evb;clear hr e5 hs I h5 hp B4 a5 c4 eW4 evb;go_wp2_with fail
    rw[<-e9.out,<-f4.out];clear e9 f4;refine f2.out.mono ?_;rintro e w5 ⟨rfl,i7⟩;obtain rfl:W4=w5:=i7.symm;clear f2;cases s9 with
    |error er=>
     have e1:okE (.error er:Except (Int × Int) Nat)=false:=rfl;rw[e1];have f5:Hid (zps zs=.error (er.1,er.2)):=by
      rcases a8.out.er er rfl with h|⟨t0,U,h2⟩
      ·cases h
      ·obtain rfl:=Except.ok.inj U;show zps zs=_;rw[J.out,h2]
     have q2:W4.cell? ⟨tb,2,none⟩=some (.int .i64 er.1):=N.out.c2;have q3:W4.cell? ⟨tb,3,none⟩=some (.int .i64 er.2):=N.out.c3;generalize er.1=C at*;generalize er.2=A at*;obtain⟨p0,p1,p2,p3,p4,p5,p6,g0,g1,z0,z1,z2,z3,z4,z5,z6,y0,y1,lp,lf⟩:=s.out W4 H.out;have f3:=N.out.lt;obtain⟨n1,n2⟩:=G.out;have n3:¬tb=pb:=by have U:=L.out;have h2:=a1.out;have h3:=a2.out;omega
     have n4:¬tb=fb:=by have U:=L.out;have h2:=a1.out;have h3:=a2.out;omega
     have n5:¬pb=tb:=fun h=>n3 h.symm
     have n6:¬fb=tb:=fun h=>n4 h.symm
     have O:Hid (zq8 zs w (.returned (.tuple #[zpv,.agg #[.int .i64 C,.int .i64 A]])) (((((((((W4.setCell ⟨pb,0,none⟩ (.slice none 0 0)).setCell ⟨pb,1,none⟩ (.slice none 0 0)).setCell ⟨pb,2,none⟩ (.slice none 0 0)).setCell ⟨pb,3,none⟩ (.slice none 0 0)).setCell ⟨pb,4,none⟩ (.slice none 0 0)).setCell ⟨pb,5,none⟩ (.slice none 0 0)).setCell ⟨pb,6,none⟩ (.slice none 0 0)).setCell ⟨fb,0,none⟩ (.int .i64 C)).setCell ⟨fb,1,none⟩ (.int .i64 A)).drew):=⟨(E.out W4 H.out _ _ _ _ _ _ _ _ _).drew,by rw[f5.out]⟩
     clear a8 f5 N X V HP b8 s E l T L J HZ M r H e1 G e3 f7 h7 h8 hn g9;go_wp2;go_region
     all_goals
      go_wp2;exact bodyPost_ret (v:=.tuple #[zpv,.agg #[.int .i64 C,.int .i64 A]]) (by simp[results,Tryz.results10,go_sem, *]) rfl O.out
    |ok u=>
     have e1:okE (.ok u:Except (Int × Int) Nat)=true:=rfl;rw[e1];obtain⟨k1,hu⟩:=N.out.at;obtain⟨t0,U,d5⟩:=a8.out.ok u rfl;obtain rfl:=Except.ok.inj U;have R:=hid d5;have f3:=N.out.lt;by_cases Q:u<P.length
     ·have i4:(u:Int)<(m:Int):=by have:=K.out;omega
      have t:Hid (zps zs=.error (4,(u:Int))):=by show _=_;rw[J.out,R.out];dsimp only;rw[if_pos Q]
      clear a8 N X V HP b8 J L d5 U hu Q e1;have HD:Hid (zps zs=.error (4,(u:Int))):=t.out;go_wp2_with fail
      skip
      refine(T.out _ _ _).mono ?_;rintro e u9 ⟨rfl,hb⟩;have f:=zh H.out hb;obtain⟨p0,p1,p2,p3,p4,p5,p6,g0,g1,z0,z1,z2,z3,z4,z5,z6,y0,y1,lp,lf⟩:=s.out u9 f;obtain⟨n1,n2⟩:=G.out;have O:=hid (l.out _ _ u9 HD.out f);clear hb f HD T s E l HZ M r t;go_wp2;exact bodyPost_ret (v:=.tuple #[zpv,.agg #[.int .i64 (4),.int .i64 ((u:Int))]]) (by simp[results,Tryz.results10,go_sem, *]) rfl O.out
     ·have i4:¬(u:Int)<(m:Int):=by have:=K.out;omega
      have I:d.lie W4:=zsB V.out (zeS _ _);have b9:d.p.mid:=by rw[HP.out];exact zsC (zqY 8000 P 3 x u (by have:=K.out;have:=Z.out;omega) R.out) (by decide)
      have c5:Hid (Calls Tryz.prog 8 #[d.v] W4 fun e w'=>e=.returned (.agg #[.int .i64 (zD d.p).1,.int .i64 (zD d.p).2])/\Below W4.heap.size W4 w'):=(zrO d W4 I b9).mono fun e w' ⟨C,A,hC,he,hb⟩=>by
       obtain⟨rfl,rfl⟩:=zkv I hC;exact⟨he,hb⟩
      have j2:∀(W:World) (x y:Int),(Instr.field 35 (.agg #[.int .i64 x,.int .i64 y]) 0).run Tryz.prog W=.ok (.int .i64 x) W:=fun _ _ _=>by kernel_rfl
      obtain⟨v0,v1,v2,v3,v4,v5,v6⟩:=X.out W4 (zof _ _);have f8:vb<W4.heap.size:=zog _ _ v0;have a4:Hid (zps zs=if(zD d.p).1≠0 then .error (5,(m:Int))else .ok x):=by show _=_;rw[J.out,R.out];dsimp only;rw[if_neg Q,K.out,HP.out]
      dsimp only[PlanD.v]at c5;clear a8 N J d5 U hu Q e1 I b9 R;go_wp2_with fail
      refine c5.out.mono ?_;rintro e w6 ⟨rfl,d4⟩;have b0:=hid (zh H.out d4);have a9:=hid d4;clear v0 v1 v2 v3 v4 v5 v6 f8 d4 c5 k1 f3;obtain⟨C,hC⟩:∃C,C=(zD d.p).1:=⟨_,rfl⟩;obtain⟨A,hA⟩:∃A,A=(zD d.p).2:=⟨_,rfl⟩;rw[<-hC]at a4;rw[<-hC,<-hA];clear hC hA;by_cases b3:C=0
      ·subst b3;have t:Hid (zps zs=.ok x):=by show _=_;rw[a4.out,if_neg (by simp)]
       obtain⟨v0,v1,v2,v3,v4,v5,v6⟩:=X.out w6 a9.out;have f8:vb<w6.heap.size:=zog _ _ v0;obtain⟨p0,p1,p2,p3,p4,p5,p6,g0,g1,z0,z1,z2,z3,z4,z5,z6,y0,y1,lp,lf⟩:=s.out w6 b0.out;obtain⟨n1,n2⟩:=G.out;have i2:=d8.out;have n3:¬vb=pb:=by have h4:=a0.out.size;have h2:=a1.out;have h3:=a2.out;omega
       have n4:¬vb=fb:=by have h4:=a0.out.size;have h2:=a1.out;have h3:=a2.out;omega
       have n5:¬pb=vb:=fun h=>n3 h.symm
       have n6:¬fb=vb:=fun h=>n4 h.symm
       have F:pb<W2.heap.size/\fb<W2.heap.size:=by have U:=L.out;have h2:=a1.out;have h3:=a2.out;have h4:=a0.out.size;omega
       have hi:Hi W2.heap.size W4 (((((((((w6.setCell ⟨pb,0,none⟩ (.slice d.heads.a d.heads.n d.heads.c)).setCell ⟨pb,1,none⟩ (.slice d.mta.a d.mta.n d.mta.c)).setCell ⟨pb,2,none⟩ (.slice d.states.a d.states.n d.states.c)).setCell ⟨pb,3,none⟩ (.slice d.acts.a d.acts.n d.acts.c)).setCell ⟨pb,4,none⟩ (.slice d.tabs.a d.tabs.n d.tabs.c)).setCell ⟨pb,5,none⟩ (.slice d.nodes.a d.nodes.n d.nodes.c)).setCell ⟨pb,6,none⟩ (.slice d.out.a d.out.n d.out.c)).setCell ⟨fb,0,none⟩ (.int .i64 0)).setCell ⟨fb,1,none⟩ (.int .i64 0)):=((((((((((Hi.of a9.out).put F.1 0 (.slice d.heads.a d.heads.n d.heads.c)).put F.1 1 (.slice d.mta.a d.mta.n d.mta.c)).put F.1 2 (.slice d.states.a d.states.n d.states.c)).put F.1 3 (.slice d.acts.a d.acts.n d.acts.c)).put F.1 4 (.slice d.tabs.a d.tabs.n d.tabs.c)).put F.1 5 (.slice d.nodes.a d.nodes.n d.nodes.c)).put F.1 6 (.slice d.out.a d.out.n d.out.c)).put F.2 0 (.int .i64 0)).put F.2 1 (.int .i64 0));have O:Hid (zq8 zs w (.returned (.tuple #[d.v,.agg #[.int .i64 0,.int .i64 0]])) (((((((((w6.setCell ⟨pb,0,none⟩ (.slice d.heads.a d.heads.n d.heads.c)).setCell ⟨pb,1,none⟩ (.slice d.mta.a d.mta.n d.mta.c)).setCell ⟨pb,2,none⟩ (.slice d.states.a d.states.n d.states.c)).setCell ⟨pb,3,none⟩ (.slice d.acts.a d.acts.n d.acts.c)).setCell ⟨pb,4,none⟩ (.slice d.tabs.a d.tabs.n d.tabs.c)).setCell ⟨pb,5,none⟩ (.slice d.nodes.a d.nodes.n d.nodes.c)).setCell ⟨pb,6,none⟩ (.slice d.out.a d.out.n d.out.c)).setCell ⟨fb,0,none⟩ (.int .i64 0)).setCell ⟨fb,1,none⟩ (.int .i64 0))):=⟨E.out w6 b0.out _ _ _ _ _ _ _ _ _,by rw[t.out];exact⟨d,zsB (V.out.step (hi.low (zos _))) (zeS _ _),HP.out,rfl⟩⟩
       dsimp only[PlanD.v]at O;clear hi V HP t a4 X a9 b0 H s E l T L HZ M r G F i2 d8 b8;go_wp2;exact bodyPost_ret (v:=.tuple #[.agg #[.slice d.heads.a d.heads.n d.heads.c,.slice d.mta.a d.mta.n d.mta.c,.slice d.states.a d.states.n d.states.c,.slice d.acts.a d.acts.n d.acts.c,.slice d.tabs.a d.tabs.n d.tabs.c,.slice d.nodes.a d.nodes.n d.nodes.c,.slice d.out.a d.out.n d.out.c],.agg #[.int .i64 0,.int .i64 0]]) (by simp[results,Tryz.results10,go_sem, *]) rfl O.out
      ·have t:Hid (zps zs=.error (5,(m:Int))):=by show _=_;rw[a4.out,if_pos b3]
       have g7:(C !=0)=true:=by simpa using b3
       clear V HP a4 X b8 L b3 d8;have HD:Hid (zps zs=.error (5,(m:Int))):=t.out;go_wp2_with fail
       skip
       refine(T.out _ _ _).mono ?_;rintro e u9 ⟨rfl,hb⟩;have f:=zh b0.out hb;obtain⟨p0,p1,p2,p3,p4,p5,p6,g0,g1,z0,z1,z2,z3,z4,z5,z6,y0,y1,lp,lf⟩:=s.out u9 f;obtain⟨n1,n2⟩:=G.out;have O:=hid (l.out _ _ u9 HD.out f);clear hb f HD T s E l HZ M r t;go_wp2;exact bodyPost_ret (v:=.tuple #[zpv,.agg #[.int .i64 (5),.int .i64 ((m:Int))]]) (by simp[results,Tryz.results10,go_sem, *]) rfl O.out
 ·have HD:zps zs=.error (4,0):=zqR (by rw[b5.out,if_pos (by rw[H3.out];simpa using a3)]) (by decide)
  have c9:(x0 !=83)=true\/((x0 !=83)=false/\(x1 !=89)=true)\/((x0 !=83)=false/\(x1 !=89)=false/\(x2 !=1)=true):=by simp;omega
  have t:=hid HD;clear HD a3 H3 b5 HM d1;rcases c9 with k0|⟨k0,k1⟩|⟨k0,k1,k2⟩
  all_goals
   have HD:Hid (zps zs=.error (4,0)):=t.out;go_wp2_with fail
   skip
   refine(T.out _ _ _).mono ?_;rintro e u9 ⟨rfl,hb⟩;have f:=zh (zof _ _) hb;obtain⟨p0,p1,p2,p3,p4,p5,p6,g0,g1,z0,z1,z2,z3,z4,z5,z6,y0,y1,lp,lf⟩:=s.out u9 f;obtain⟨n1,n2⟩:=G.out;have O:=hid (l.out _ _ u9 HD.out f);clear hb f HD T s E l HZ M r t;go_wp2;exact bodyPost_ret (v:=.tuple #[zpv,.agg #[.int .i64 (4),.int .i64 (0)]]) (by simp[results,Tryz.results10,go_sem, *]) rfl O.out
end Go.Proofs.YtbmcgbmegcpgnaaGreat
