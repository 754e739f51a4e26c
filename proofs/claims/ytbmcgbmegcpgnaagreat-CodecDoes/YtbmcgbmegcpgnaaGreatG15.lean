import Derived.Test.YtbmcgbmegcpgnaaGreatG14
import Derived.Test.YtbmcgbmegcpgnaaGreatG8
import Derived.Deep.CutBlock
import Derived.Deep.DeepCutAuto
set_option maxHeartbeats 32000000
set_option maxRecDepth 20000
set_option linter.unusedSimpArgs false
namespace Go.Proofs.YtbmcgbmegcpgnaaGreat
open Go.RowKit
theorem Rn.far{p B:Nat}{w a w2:World}(h:Rn p w a)(b:Below B a w2)(e:w.heap.size<=B):Rn p w w2:=⟨b.os.trans h.os,b.tape.trans h.tape,b.output.trans h.output,zoz h.size b.size,fun k c d=>(b.block k (by omega)).trans (h.block k c d)⟩
theorem zrU{α :Type}(r:Except (Int × Int) (α × Nat)):y7 r (fun x u=>.ok (x,u))=r:=by
 cases r<;>rfl
theorem zq7{α :Type}(r:Except (Int × Int) (List α × Nat)):xk [] r=r:=by
 cases r<;>rfl
theorem Sim.beh{α β :Type}{s s1:Except (Int × Int) Nat}{R:Nat->Except (Int × Int) (α × Nat)}{f:Nat->Except (Int × Int) (β × Nat)}{m:Nat}{K:List β->Nat->Except (Int × Int) (α × Nat)}(h:Sim s R s1 fun t=>y7 (xh f m t) K):Sim s R s1 fun t=>y7 (xk [] (xh f (m-0) t)) K:=
 h.eq fun _=>by rw[zq7];rfl
theorem Sim.cnt{α β :Type}{zs:List Int}{s s1 s2:Except (Int × Int) Nat}{R:Nat->Except (Int × Int) (α × Nat)}{f:Nat->Except (Int × Int) (β × Nat)}{m:Nat}{K:List β->Nat->Except (Int × Int) (α × Nat)}(h:Sim s R s1 fun t=>y7 (yz zs f t) K)(k:Sim s1 (zpl zs) s2 fun t=>.ok (m,t)):Sim s R s2 fun t=>y7 (xk [] (xh f (m-0) t)) K:=by
 have b:Sim s R s1 (fun t=>y7 (zpl zs t) fun n a=>y7 (xh f n a) K):=h.eq fun t=>by unfold yz y7;cases zpl zs t<;>rfl
 exact(Sim.next b k).beh
theorem Sim.list{β :Type}{zs:List Int}{s s2:Except (Int × Int) Nat}{f:Nat->Except (Int × Int) (β × Nat)}{m:Nat}(k:Sim s (zpl zs) s2 fun t=>.ok (m,t)):Sim s (yz zs f) s2 fun t=>y7 (xk [] (xh f (m-0) t)) fun l u=>.ok (l,u):=
 Sim.cnt ((Sim.refl s (yz zs f)).eq fun _=>(zrU _).symm) k
theorem Sim.elem{α β :Type}{s s1 s2:Except (Int × Int) Nat}{R:Nat->Except (Int × Int) (α × Nat)}{f:Nat->Except (Int × Int) (β × Nat)}{X:List β}{x: β}{n i:Nat}{K:List β->Nat->Except (Int × Int) (α × Nat)}(h:Sim s R s1 fun t=>y7 (xk X (xh f (n-i) t)) K)(hi:i<n)(k:Sim s1 f s2 fun t=>.ok (x,t)):Sim s R s2 fun t=>y7 (xk (X++[x]) (xh f (n-(i+1)) t)) K:=by
 have e:n-i=(n-(i+1))+1:=by omega
 rw[e]at h;refine⟨fun t l=>?_,fun er m=>?_⟩
 ·obtain⟨d,a,c⟩:=k.ok t l;obtain⟨j,b,g⟩:=h.ok d a;exact⟨j,b,by rw[g,zo4 _ _ _ _ _ _ c]⟩
 ·rcases k.er er m with a|⟨d,a,c⟩
  ·exact h.er er a
  ·obtain⟨j,b,g⟩:=h.ok d a;exact .inr ⟨j,b,by rw[g,zo5 _ _ _ _ _ c];rfl⟩
theorem Sim.done{α β :Type}{s s1:Except (Int × Int) Nat}{R:Nat->Except (Int × Int) (α × Nat)}{f:Nat->Except (Int × Int) (β × Nat)}{X:List β}{n i:Nat}{K:List β->Nat->Except (Int × Int) (α × Nat)}(h:Sim s R s1 fun t=>y7 (xk X (xh f (n-i) t)) K)(a:¬i<n\/∃e,s1=.error e):Sim s R s1 fun t=>K X t:=by
 rcases a with a|⟨e,rfl⟩
 ·refine h.eq fun t=>?_
  rw[show n-i=0 by omega]
  show K (X++[]) t=K X t;rw[List.append_nil]
 ·exact h.bad _
structure TS2 (p : Nat) (a : Option Addr) (c : Nat) (zs : List Int) (T : TypeId) (rb bx : Nat) (w0 : World) (s : Except (Int × Int) Nat) (us vs : List Value) (w : World) : Prop where
 st : TSt p a c zs T rb w0 s us w
 box : BoxAt T w bx vs
 lt : rb < bx
theorem TS2.start{p:Nat}{a:Option Addr}{c:Nat}{zs:List Int}{T:TypeId}{d:Nat}{w0:World}{s:Except (Int × Int) Nat}{us:List Value}{w:World}(h:TSt p a c zs T d w0 s us w)(b:List Value):TS2 p a c zs T d w.heap.size w0 s us b (w.alloc (.cells b.toArray T)):=
 ⟨h.step (ze (zof _ _)),BoxAt.new T w b,h.box.lt⟩
theorem TS2.read{p:Nat}{a:Option Addr}{c:Nat}{zs:List Int}{T:TypeId}{f b:Nat}{w0:World}{s e:Except (Int × Int) Nat}{us g:List Value}{w w':World}(h:TS2 p a c zs T f b w0 s us g w)(r:Rn p w w')(d:Tk p a c zs e w'):TS2 p a c zs T f b w0 e us g w':=
 ⟨h.st.read r d,(r.block b h.box.lt (by have:=h.lt;have:=h.st.lt;omega)).trans h.box,h.lt⟩
theorem TS2.put{p:Nat}{a:Option Addr}{c:Nat}{zs:List Int}{T:TypeId}{d b:Nat}{w0:World}{s:Except (Int × Int) Nat}{us e:List Value}{w:World}(h:TS2 p a c zs T d b w0 s us e w)(i:Nat)(v:Value):TS2 p a c zs T d b w0 s us (e.set i v) (w.setCell ⟨b,i,none⟩ v):=
 ⟨h.st.far (B:=d+1) ⟨rfl,rfl,rfl,by simp[World.setCell],fun k f=>zop _ _ _ _ (by have:=h.lt;show k≠b;omega)⟩ (zoF _),h.box.put i v,h.lt⟩
theorem TS2.putr{p:Nat}{a:Option Addr}{c:Nat}{zs:List Int}{T:TypeId}{b d:Nat}{w0:World}{s:Except (Int × Int) Nat}{us e:List Value}{w:World}(h:TS2 p a c zs T b d w0 s us e w)(i:Nat)(v:Value):TS2 p a c zs T b d w0 s (us.set i v) e (w.setCell ⟨b,i,none⟩ v):=
 ⟨h.st.put i v,(zop _ _ _ _ (by have:=h.lt;show d≠b;omega)).trans h.box,h.lt⟩
theorem TS2.far{p:Nat}{a:Option Addr}{c:Nat}{zs:List Int}{T:TypeId}{g d:Nat}{w0:World}{s:Except (Int × Int) Nat}{us e:List Value}{w w':World}(h:TS2 p a c zs T g d w0 s us e w){B:Nat}(b:Below B w w')(f:d<B):TS2 p a c zs T g d w0 s us e w':=
 ⟨h.st.far b (Nat.lt_trans h.lt f),(b.block d f).trans h.box,h.lt⟩
theorem TS2.step{p:Nat}{a:Option Addr}{c:Nat}{zs:List Int}{T:TypeId}{f e:Nat}{w0:World}{s:Except (Int × Int) Nat}{us d:List Value}{w w':World}(h:TS2 p a c zs T f e w0 s us d w)(b:Below w.heap.size w w'):TS2 p a c zs T f e w0 s us d w':=h.far b h.box.lt
theorem zrV{p:Nat}{a:Option Addr}{c:Nat}{zs:List Int}{s:Except (Int × Int) Nat}{w:World}(h:Tk p a c zs s w):
 Calls Tryz.prog 76 #[.pointer (some ⟨p,0,none⟩)] w (TD p a c zs s (yz zs (ke zs)) (ListV kInt id id w.heap.size) w):=by
 have HC:=hid (zp1 h);have HP:=hid h.lt;clear h;go_enter Tryz.func76,Tryz.ntmps76
 go_wp2_with fail
 refine HC.out.mono ?_;rintro e w1 ⟨_,m,s1,rfl,⟨rfl,Z⟩,S,M,hs⟩;have Y:=hid (Sim.list (f:=ke zs) hs);have B:Hid (RowS kInt 3 w.heap.size [] ⟨none,0,0⟩ w1):=RowS.nil _ _ S.size;have G:=hid M;have J:=hid S;have a0:=zoz Z M.few;clear HC Z S M hs;go_wp2;go_loopw [3,5] (fun v q wr=>∃(i:Nat) (X:List Int) (sl:QSl) (s2:Except (Int × Int) Nat),q=.int .i64 i/\v=.slice sl.a sl.n sl.c/\Hid (i<=m/\X.length=i)/\Hid (RowS kInt 3 w.heap.size X sl wr)/\Hid (Tk p a c zs s2 wr)/\Hid (Rn p w wr)/\Hid (Sim s (yz zs (ke zs)) s2 fun t=>y7 (xk X (xh (ke zs) (m-i) t)) fun l u=>.ok (l,u))) (fun _ q _=>m-(intOf q).toNat)
 case atStart=>exact⟨0,[],⟨none,0,0⟩,s1,rfl,rfl,⟨zon _,rfl⟩,B,G,J,Y⟩
 case round=>
  clear B G J Y;obtain⟨i,X,sl,s2,rfl,rfl,W,b,g,j,r⟩:=hrel;have y:=hid (tok g.out);by_cases k:i<m
  ·have Q:(i:Int)<(m:Int):=by omega
   cases s2 with
   |error er=>
    have D:okE (.error er:Except (Int × Int) Nat)=false:=rfl;rw[D]at y;have L:Hid (TD p a c zs s (yz zs (ke zs)) (ListV kInt id id w.heap.size) w (.returned (.slice sl.a sl.n sl.c)) wr):=⟨_,X,_,rfl,⟨sl,X,rfl,b.out.fin.1,b.out.fin.2.1,b.out.fin.2.2,rfl⟩,j.out,g.out,r.out.done (.inr ⟨_,rfl⟩)⟩;clear D r g j b;go_wp2_with fail
    refine y.out.mono ?_;rintro e w2 ⟨rfl,rfl⟩;go_wp2;go_ret;exact L.out
   |ok t=>
    have D:okE (.ok t:Except (Int × Int) Nat)=true:=rfl;rw[D]at y;have V:=hid (zpk g.out);clear D;go_wp2_with fail
    refine y.out.mono ?_;rintro e w2 ⟨rfl,rfl⟩;clear y;go_wp2_with fail
    refine V.out.mono ?_;rintro e E ⟨_,x,s3,rfl,⟨rfl,C⟩,d,A,F⟩;have H:=W.out;obtain⟨U,w5,I,en,row,hb⟩:=RowS.push 23 Tryz.underlying23 Tryz.infoInt rfl (by decide) b.out ((Hi.rn d HP.out).trans (Hi.of (ze (o:=.cells [.int .i64 x].toArray 3) (zof E.heap.size E)))) j.out.size (x:=x) C (ad:=⟨E.heap.size,0,none⟩) (c:=1) zbH (by have:=b.out.len;omega)
    have N:=hid (r.out.elem k F);have O:=ze (o:=.cells [.int .i64 x].toArray 3) (zof E.heap.size E);have P:=hid ((A.step O).far hb HP.out);have R:Hid (Rn p w w5):=((j.out.trans d).trans (Rn.of O)).far hb (zos _);have K:=hid row;have T:Hid (i+1<=m/\(X++[x]).length=i+1):=⟨k,by rw[List.length_append,H.2];rfl⟩
    clear V F A d C en row hb O H b g j r W;go_wp2_with (at_builtin;refine yg rfl _ _ rfl rfl rfl I ?_)
    go_roundw
    case rel=>exact⟨i+1,X++[x],U,s3,by go_num,rfl,T,K,P,R,N⟩
    case measure=>simp[intOf];omega
  ·have Q:¬(i:Int)<(m:Int):=by omega
   have L:Hid (TD p a c zs s (yz zs (ke zs)) (ListV kInt id id w.heap.size) w (.returned (.slice sl.a sl.n sl.c)) wr):=⟨_,X,_,rfl,⟨sl,X,rfl,b.out.fin.1,b.out.fin.2.1,b.out.fin.2.2,rfl⟩,j.out,g.out,r.out.done (.inl k)⟩;clear r g j b y;go_wp2;go_ret;exact L.out
def RV(X:Int × Int)(v:Value)(_:World):Prop:=v=.agg #[.int .i64 X.1,.int .i64 X.2]/\wfI X.1/\wfI X.2
theorem ztW{p:Nat}{a:Option Addr}{c:Nat}{zs:List Int}{s:Except (Int × Int) Nat}{w:World}(h:Tk p a c zs s w):
 Calls Tryz.prog 126 #[.pointer (some ⟨p,0,none⟩)] w (TD p a c zs s (jp zs) RV w):=by
 obtain⟨W0,eW0⟩:∃W,W=w.alloc (.cells #[.int .i64 0,.int .i64 0] 48):=⟨_,rfl⟩;obtain⟨W1,eW1⟩:∃W,W=W0.alloc (.cells #[.int .i64 0,.int .i64 0] 48):=⟨_,rfl⟩;obtain⟨rb,erb⟩:∃b,b=w.heap.size:=⟨_,rfl⟩;obtain⟨bx,ebx⟩:∃b,b=w.heap.size+1:=⟨_,rfl⟩;have A:TSt p a c zs 48 rb w s [.int .i64 0,.int .i64 0] W0:=by rw[eW0,erb];exact TSt.start h (Rn.refl _ _) _ _
 have o:Hid (TS2 p a c zs 48 rb bx w s [.int .i64 0,.int .i64 0] [.int .i64 0,.int .i64 0] W1):=by
  have e:bx=W0.heap.size:=by rw[eW0,ebx];simp
  rw[eW1,e];exact TS2.start A _
 have r:Hid (W1=(w.alloc (.cells #[.int .i64 0,.int .i64 0] 48)).alloc (.cells #[.int .i64 0,.int .i64 0] 48)):=by show W1=_;rw[eW1,eW0]
 have x:=hid ebx;have B:=hid erb;have g:=hid (zpk o.out.st.tk);clear h eW0 eW1 erb ebx A;go_enter Tryz.func126,Tryz.ntmps126
 go_wp2_with fail
 rw[<-r.out,<-x.out,<-B.out];clear r x B;refine g.out.mono ?_;rintro e w2 ⟨_,f,s1,rfl,⟨rfl,wf⟩,l,k,hs⟩;have u:=hid (Sim.next (Sim.refl s (jp zs)) hs);have T:=o.out.read l k;have j:=hid wf;have q:=T.box.cell (i:=0) rfl;have z0:=T.box.fz 0;have C:=T.box.lt;obtain⟨V1,eV⟩:∃W,W=w2.setCell ⟨bx,0,none⟩ (.int .i64 f):=⟨_,rfl⟩;have m:Hid (TS2 p a c zs 48 rb bx w s1 [.int .i64 0,.int .i64 0] [.int .i64 f,.int .i64 0] V1):=by rw[eV];exact T.put 0 _
 have t:=hid eV;clear g o wf l k hs T eV;have g:=hid (zpk m.out.st.tk);go_wp2_with fail
 rw[<-t.out];clear t q z0 C;refine g.out.mono ?_;rintro e E ⟨_,d,s2,rfl,⟨rfl,wf⟩,l,k,hs⟩;have y:=hid (Sim.next u.out hs);have T:=m.out.read l k;have q:=T.box.cell (i:=0) rfl;have L:=T.box.cell (i:=1) rfl;have z1:=T.box.fz 1;have C:=T.box.lt;have H:=T.st.box.cell (i:=0) rfl;have M:=T.st.box.cell (i:=1) rfl;have G:=T.st.box.fz 0;have F:=T.st.box.fz 1;have K:=T.st.box.lt;have J:¬bx=rb:=by have:=T.lt;omega
 have I:¬rb=bx:=by have:=T.lt;omega
 have n:=((T.put 1 (.int .i64 d)).putr 0 (.int .i64 f)).putr 1 (.int .i64 d);have D:Hid (TD p a c zs s (jp zs) RV w (.returned (.agg #[.int .i64 f,.int .i64 d])) (((E.setCell ⟨bx,1,none⟩ (.int .i64 d)).setCell ⟨rb,0,none⟩ (.int .i64 f)).setCell ⟨rb,1,none⟩ (.int .i64 d))):=⟨_,(f,d),s2,rfl,⟨rfl,j.out,wf⟩,n.st.rn,n.st.tk,y.out⟩;clear g m wf l k hs T n u y j;go_wp2;exact bodyPost_ret (v:=.agg #[.int .i64 f,.int .i64 d]) (by simp[results,Tryz.results126,go_sem, *]) rfl D.out
theorem zqd{zs:List Int}{s s1:Except (Int × Int) Nat}{U:Nat}(h:Sim s (zpf zs) s1 fun t=>.ok (U,t)):Sim s (zo0 zs) s1 fun t=>.ok ((U:Int),t):=
 ⟨fun t d=>by obtain⟨c,b,a⟩:=h.ok t d;exact⟨c,b,by unfold zo0;rw[a]⟩,fun e f=>(h.er e f).imp id fun⟨c,b,a⟩=>⟨c,b,by unfold zo0;rw[a]⟩⟩
theorem zpy{i m:Nat}{s:Except (Int × Int) Nat}(h:(decide (i<m)&&okE s)=false):¬i<m\/∃e,s=.error e:=by
 cases s with
 |ok t=>exact .inl (by simpa[okE]using h)
 |error e=>exact .inr ⟨e,rfl⟩
theorem zpP{i m:Nat}{s:Except (Int × Int) Nat}(h:(decide (i<m)&&okE s)=true):i<m:=by
 simp only[Bool.and_eq_true,decide_eq_true_eq]at h;exact h.1
theorem ztX{p:Nat}{a:Option Addr}{c:Nat}{zs:List Int}{s:Except (Int × Int) Nat}{w:World}(h:Tk p a c zs s w):
 Calls Tryz.prog 128 #[.pointer (some ⟨p,0,none⟩)] w (TD p a c zs s (yz zs (zo6 zs)) (ListV kPush id zpV w.heap.size) w):=by
 have HC:=hid (zp1 h);have HP:=hid h.lt;clear h;go_enter Tryz.func128,Tryz.ntmps128
 go_wp2_with fail
 refine HC.out.mono ?_;rintro e w1 ⟨_,m,s1,rfl,⟨rfl,hm⟩,L,J,hs⟩;have M1:=hid (Sim.list (f:=zo6 zs) hs);have a1:Hid (RowS kPush 144 w.heap.size [] ⟨none,0,0⟩ w1):=RowS.nil _ _ L.size;have a2:=hid J;have a3:=hid L;have a5:=zoz hm J.few;clear HC hm L J hs;go_wp2;go_loopw [3,5] (fun v q wr=>∃(i:Nat) (X:List (Int × Int × Int × Int)) (sl:QSl) (s2:Except (Int × Int) Nat),q=.int .i64 i/\v=.slice sl.a sl.n sl.c/\Hid (i<=m/\X.length=i)/\Hid (RowS kPush 144 w.heap.size (X.map zpV) sl wr)/\Hid (Tk p a c zs s2 wr)/\Hid (Rn p w wr)/\Hid (Sim s (yz zs (zo6 zs)) s2 fun t=>y7 (xk X (xh (zo6 zs) (m-i) t)) fun l u=>.ok (l,u))) (fun _ q _=>m-(intOf q).toNat)
 case atStart=>exact⟨0,[],⟨none,0,0⟩,s1,rfl,rfl,⟨zon _,rfl⟩,a1,a2,a3,M1⟩
 case round=>
  clear a1 a2 a3 M1;obtain⟨i,X,sl,s2,rfl,rfl,HI,I,HT,R,HM⟩:=hrel;have HO:=hid (tok HT.out);go_upto_region 4 with fail
  go_cut [15]from 9 to 15 (fun v wc=>v=.bool (decide (i<m)&&okE s2)/\wr=wc)
  case first=>
   by_cases r:i<m
   ·have a4:(i:Int)<(m:Int):=by omega
    go_wp2_with fail
    refine HO.out.mono ?_;rintro e w2 ⟨rfl,rfl⟩;go_wp2_with fail
    go_meet
    exact⟨by simp[r],rfl⟩
   ·have a4:¬(i:Int)<(m:Int):=by omega
    go_wp2_with fail
    go_meet
    exact⟨by simp[r],rfl⟩
  case rest=>
   obtain⟨rfl,rfl⟩:=hcut;clear HO;cases a0:(decide (i<m)&&okE s2)
   ·have HE:Hid (TD p a c zs s (yz zs (zo6 zs)) (ListV kPush id zpV w.heap.size) w (.returned (.slice sl.a sl.n sl.c)) wr):=⟨_,X,_,rfl,⟨sl,_,rfl,I.out.fin.1,I.out.fin.2.1,I.out.fin.2.2,List.map_id _⟩,R.out,HT.out,HM.out.done (zpy a0)⟩;clear HM HT R I a0;go_wp2;go_ret;exact HE.out
   ·have r:=zpP a0;have HF:=hid (zpk HT.out);clear a0;go_wp2_with fail
    refine HF.out.mono ?_;rintro e w2 ⟨_,K,s3,rfl,⟨rfl,wf⟩,L,J,hs⟩;have ME:=hid (Sim.next (Sim.refl s2 (zo6 zs)) hs);obtain⟨V,eV⟩:∃W,W=w2.alloc (.cells #[.int .i64 K,.int .i64 0,.int .i64 0,.int .u64 0] 144):=⟨_,rfl⟩;obtain⟨bx,ebx⟩:∃b,b=w2.heap.size:=⟨_,rfl⟩;have Y:Hid (TSt p a c zs 144 bx wr s3 [.int .i64 K,.int .i64 0,.int .i64 0,.int .u64 0] V):=by rw[eV,ebx];exact TSt.start J L _ _
    have HW:=hid wf;have EV:Hid (V=w2.alloc (.cells #[.int .i64 K,.int .i64 0,.int .i64 0,.int .u64 0] 144)):=eV;have EB:=hid ebx;clear HF L J hs wf eV ebx;by_cases H:K=1
    ·subst H;have N:=hid (Sim.eq ME.out (fun t=>if_pos rfl))
     have HF:=hid (zq6 Y.out.tk);go_wp2_with fail
     rw[<-EV.out,<-EB.out];clear EV EB;refine HF.out.mono ?_;rintro e w3 ⟨_,U,s9,rfl,⟨rfl,hu⟩,L,J,hs⟩;have j:=hid (Sim.next N.out (zqd hs));have y:=hid (Y.out.read L J);have G:=hid (zkC (U:Int) ⟨by omega,by omega⟩)
     have b0:=y.out.box.cell (i:=0) rfl;have b1:=y.out.box.cell (i:=1) rfl;have b2:=y.out.box.cell (i:=2) rfl;have b3:=y.out.box.cell (i:=3) rfl;have z3:=y.out.box.fz 3;have l0:=y.out.box.lt;clear HF L J hs hu Y ME N;have B:=HI.out;have d:=(y.out.put 3 (.int .u64 (U:Int)));obtain⟨VE,eVE⟩:∃W,W=(w3.setCell ⟨bx,3,none⟩ (.int .u64 (U:Int))):=⟨_,rfl⟩;rw[<-eVE]at d;have O:=hid d;have F:=ze (o:=.cells [.int .i64 1,.int .i64 0,.int .i64 0,.int .u64 (U:Int)].toArray 144) (zof VE.heap.size VE);obtain⟨D,w5,g,en,row,hb⟩:=RowS.push 57 Tryz.underlying57 Tryz.infoPush rfl (by decide) I.out (Hi.trans ⟨d.rn.os,d.rn.tape,d.rn.output,d.rn.size,fun k H Z=>d.rn.block k Z (by have:=HP.out;omega)⟩ (Hi.of F)) R.out.size (x:=zpV (1,0,0,(U:Int))) ⟨HW.out,rfl,rfl,G.out⟩ (ad:=⟨VE.heap.size,0,none⟩) (c:=1) zbH (by have H:=I.out.len;rw[zoE]at H;omega)
     have P:=hid (HM.out.elem r j.out);have Q:=hid ((d.tk.step F).far hb HP.out);have S:Hid (Rn p w w5):=((R.out.trans d.rn).trans (Rn.of F)).far hb (zos _);have M:Hid (RowS kPush 144 w.heap.size ((X++[(1,0,0,(U:Int))]).map zpV) D w5):=by show RowS _ _ _ _ _ _;rw[List.map_append];exact row
     have T:Hid (i+1<=m/\(X++[(1,0,0,(U:Int))]).length=i+1):=⟨r,by rw[List.length_append,B.2];rfl⟩
     have c0:=d.box.cell (i:=0) rfl;have c1:=d.box.cell (i:=1) rfl;have c2:=d.box.cell (i:=2) rfl;have c3:=d.box.cell (i:=3) rfl;have lE:=d.box.lt;have A:=hid eVE;obtain⟨gb,egb⟩:∃b,b=VE.heap.size:=⟨_,rfl⟩;rw[<-egb]at g;have C:Hid (gb=w3.heap.size):=by show gb=_;rw[egb,eVE];simp only[zow]
     clear egb;clear d O en row hb F B I HT R HM HI eVE y j HW G;go_wp2_with (first|fail|(at_builtin;rw[<-A.out,<-C.out];clear A C;refine yg rfl _ _ rfl rfl rfl g ?_))
     go_roundw
     case rel=>exact⟨i+1,X++[(1,0,0,(U:Int))],D,s9,by go_num,rfl,T,M,Q,S,P⟩
     case measure=>simp[intOf];omega
    have k1:(K==1)=false:=by simpa using H
    by_cases Z:K=2
    ·subst Z;have N:=hid (Sim.eq ME.out (fun t=>(if_neg (by decide)).trans (if_pos rfl)))
     have HF:=hid (ztW Y.out.tk);go_wp2_with fail
     rw[<-EV.out,<-EB.out];clear EV EB;refine HF.out.mono ?_;rintro e w3 ⟨_,E,s9,rfl,⟨rfl,wh,wf⟩,L,J,hs⟩;have j:=hid (Sim.next N.out hs);have y:=hid (Y.out.read L J);have G:=hid (And.intro wh wf);have b0:=y.out.box.cell (i:=0) rfl;have b1:=y.out.box.cell (i:=1) rfl;have b2:=y.out.box.cell (i:=2) rfl;have b3:=y.out.box.cell (i:=3) rfl;have z1:=y.out.box.fz 1;have z2:=y.out.box.fz 2;have l0:=y.out.box.lt;clear HF L J hs wh wf Y ME N H k1;have B:=HI.out;have d:=((y.out.put 1 (.int .i64 E.1)).put 2 (.int .i64 E.2));obtain⟨VE,eVE⟩:∃W,W=((w3.setCell ⟨bx,1,none⟩ (.int .i64 E.1)).setCell ⟨bx,2,none⟩ (.int .i64 E.2)):=⟨_,rfl⟩;rw[<-eVE]at d;have O:=hid d;have F:=ze (o:=.cells [.int .i64 2,.int .i64 E.1,.int .i64 E.2,.int .u64 0].toArray 144) (zof VE.heap.size VE);obtain⟨D,w5,g,en,row,hb⟩:=RowS.push 57 Tryz.underlying57 Tryz.infoPush rfl (by decide) I.out (Hi.trans ⟨d.rn.os,d.rn.tape,d.rn.output,d.rn.size,fun k H Z=>d.rn.block k Z (by have:=HP.out;omega)⟩ (Hi.of F)) R.out.size (x:=zpV (2,E.1,E.2,0)) ⟨HW.out,G.out.1,G.out.2,rfl⟩ (ad:=⟨VE.heap.size,0,none⟩) (c:=1) zbH (by have H:=I.out.len;rw[zoE]at H;omega)
     have P:=hid (HM.out.elem r j.out);have Q:=hid ((d.tk.step F).far hb HP.out);have S:Hid (Rn p w w5):=((R.out.trans d.rn).trans (Rn.of F)).far hb (zos _);have M:Hid (RowS kPush 144 w.heap.size ((X++[(2,E.1,E.2,0)]).map zpV) D w5):=by show RowS _ _ _ _ _ _;rw[List.map_append];exact row
     have T:Hid (i+1<=m/\(X++[(2,E.1,E.2,0)]).length=i+1):=⟨r,by rw[List.length_append,B.2];rfl⟩
     have c0:=d.box.cell (i:=0) rfl;have c1:=d.box.cell (i:=1) rfl;have c2:=d.box.cell (i:=2) rfl;have c3:=d.box.cell (i:=3) rfl;have lE:=d.box.lt;have A:=hid eVE;obtain⟨gb,egb⟩:∃b,b=VE.heap.size:=⟨_,rfl⟩;rw[<-egb]at g;have C:Hid (gb=w3.heap.size):=by show gb=_;rw[egb,eVE];simp only[zow]
     clear egb;clear d O en row hb F B I HT R HM HI eVE y j HW G;go_wp2_with (first|fail|(at_builtin;rw[<-A.out,<-C.out];clear A C;refine yg rfl _ _ rfl rfl rfl g ?_))
     go_roundw
     case rel=>exact⟨i+1,X++[(2,E.1,E.2,0)],D,s9,by go_num,rfl,T,M,Q,S,P⟩
     case measure=>simp[intOf];omega
    ·have k2:(K==2)=false:=by simpa using Z
     have j:=hid (Sim.eq ME.out (fun t=>(if_neg H).trans (if_neg Z)))
     obtain⟨s9,e9⟩:∃s9,s9=s3:=⟨_,rfl⟩;rw[<-e9]at j Y;clear e9;have B:=HI.out;have d:=Y.out;obtain⟨VE,eVE⟩:∃W,W=V:=⟨_,rfl⟩;rw[<-eVE]at d;have O:=hid d;have F:=ze (o:=.cells [.int .i64 K,.int .i64 0,.int .i64 0,.int .u64 0].toArray 144) (zof VE.heap.size VE);obtain⟨D,w5,g,en,row,hb⟩:=RowS.push 57 Tryz.underlying57 Tryz.infoPush rfl (by decide) I.out (Hi.trans ⟨d.rn.os,d.rn.tape,d.rn.output,d.rn.size,fun k H Z=>d.rn.block k Z (by have:=HP.out;omega)⟩ (Hi.of F)) R.out.size (x:=zpV (K,0,0,0)) ⟨HW.out,rfl,rfl,rfl⟩ (ad:=⟨VE.heap.size,0,none⟩) (c:=1) zbH (by have H:=I.out.len;rw[zoE]at H;omega)
     have P:=hid (HM.out.elem r j.out);have Q:=hid ((d.tk.step F).far hb HP.out);have S:Hid (Rn p w w5):=((R.out.trans d.rn).trans (Rn.of F)).far hb (zos _);have M:Hid (RowS kPush 144 w.heap.size ((X++[(K,0,0,0)]).map zpV) D w5):=by show RowS _ _ _ _ _ _;rw[List.map_append];exact row
     have T:Hid (i+1<=m/\(X++[(K,0,0,0)]).length=i+1):=⟨r,by rw[List.length_append,B.2];rfl⟩
     have c0:=d.box.cell (i:=0) rfl;have c1:=d.box.cell (i:=1) rfl;have c2:=d.box.cell (i:=2) rfl;have c3:=d.box.cell (i:=3) rfl;have lE:=d.box.lt;have A:=hid eVE;obtain⟨gb,egb⟩:∃b,b=VE.heap.size:=⟨_,rfl⟩;rw[<-egb]at g;have C:Hid (gb=w2.heap.size+1):=by show gb=_;rw[egb,eVE,EV.out];simp
     clear egb;clear d O en row hb F B I HT R HM HI eVE Y j HW;go_wp2_with (first|fail|(at_builtin;rw[<-EV.out,<-A.out,<-C.out];clear A EV C;refine yg rfl _ _ rfl rfl rfl g ?_))
     go_roundw
     case rel=>exact⟨i+1,X++[(K,0,0,0)],D,s9,by go_num,rfl,T,M,Q,S,P⟩
     case measure=>simp[intOf];omega
theorem zvf{p:Nat}{a:Option Addr}{c:Nat}{zs:List Int}{s:Except (Int × Int) Nat}{w:World}(h:Tk p a c zs s w):
 Calls Tryz.prog 80 #[.pointer (some ⟨p,0,none⟩)] w (TD p a c zs s (zo7 zs) (zqq kNode NodeD.p zp3 w.heap.size) w):=by
 obtain⟨W0,eW0⟩:∃W,W=w.alloc (.cells #[.int .i64 0,.int .i64 0,.slice none 0 0,.int .i64 0,.int .i64 0] 65):=⟨_,rfl⟩;obtain⟨rb,erb⟩:∃b,b=w.heap.size:=⟨_,rfl⟩;have R0:Hid (TSt p a c zs 65 rb w s [.int .i64 0,.int .i64 0,.slice none 0 0,.int .i64 0,.int .i64 0] W0):=by rw[eW0,erb];exact TSt.start h (Rn.refl _ _) _ _
 have HP:=hid h.lt;have EW:=hid eW0;have ER:=hid erb;have o:=hid (zpk R0.out.tk);clear h eW0 erb;go_enter Tryz.func80,Tryz.ntmps80
 go_wp2_with fail
 rw[<-EW.out,<-ER.out];clear EW ER;refine o.out.mono ?_;rintro e w0 ⟨_,x,s0,rfl,⟨rfl,wf⟩,j,q,hs⟩;have M0:=hid (Sim.next (Sim.refl s (zo7 zs)) hs);have R1:=hid (R0.out.read j q);obtain⟨V0,eV⟩:∃W,W=w0.alloc (.cells #[.int .i64 x,.int .i64 0,.slice none 0 0,.int .i64 0,.int .i64 0] 65):=⟨_,rfl⟩;obtain⟨bx,ebx⟩:∃b,b=w0.heap.size:=⟨_,rfl⟩;have I:Hid (TS2 p a c zs 65 rb bx w s0 [.int .i64 0,.int .i64 0,.slice none 0 0,.int .i64 0,.int .i64 0] [.int .i64 x,.int .i64 0,.slice none 0 0,.int .i64 0,.int .i64 0] V0):=by rw[eV,ebx];exact TS2.start R1.out _
 have J:=hid wf;obtain⟨B0,eB0⟩:∃B,B=V0.heap.size:=⟨_,rfl⟩;have l:Hid (p<B0/\rb<B0/\bx<B0):=⟨by rw[eB0];exact I.out.st.tk.lt,by rw[eB0];exact I.out.st.box.lt,by rw[eB0];exact I.out.box.lt⟩
 have F:Hid (w.heap.size<=B0):=by show _<=B0;rw[eB0];exact I.out.st.rn.size
 have k:Hid (B0<=V0.heap.size):=by show B0<=_;rw[eB0];exact zos _
 have u:=hid eV;have EB:=hid ebx;clear o R0 R1 j q hs wf eV ebx eB0;have o:=hid (zpk I.out.st.tk);go_wp2_with fail
 rw[<-u.out,<-EB.out];clear u EB;refine o.out.mono ?_;rintro e M ⟨_,g,s1,rfl,⟨rfl,wf⟩,j,q,hs⟩;have M1:=hid (Sim.next M0.out hs);have C:=hid (I.out.read j q);have k:Hid (B0<=M.heap.size):=zoz k.out j.size;have H:=hid wf;clear wf;clear o j q hs I;have y:=C.out.box.cell (i:=0) rfl;have P:=C.out.box.cell (i:=3) rfl;have z3:=C.out.box.fz 3;have A:=C.out.box.lt;by_cases h3:x=3
 ·subst h3;have R:=hid (Sim.eq M1.out (fun t=>if_pos rfl))
  change Hid (TS2 p a c zs 65 rb bx w s1 [.int .i64 0,.int .i64 0,.slice none 0 0,.int .i64 0,.int .i64 0] [.int .i64 3,.int .i64 0,.slice none 0 0,.int .i64 0,.int .i64 0] M)at C
  obtain⟨V1,eV⟩:∃W,W=(M.setCell ⟨bx,3,none⟩ (.int .i64 g)):=⟨_,rfl⟩;have E:Hid (TS2 p a c zs 65 rb bx w s1 [.int .i64 0,.int .i64 0,.slice none 0 0,.int .i64 0,.int .i64 0] [.int .i64 3,.int .i64 0,.slice none 0 0,.int .i64 g,.int .i64 0] V1):=by rw[eV];exact(C.out.put 3 (.int .i64 g))
  have u:=hid eV;have k:Hid (B0<=V1.heap.size):=by show B0<=_;rw[eV];simpa[World.setCell]using k.out
  clear eV C;have o:=hid (ztX E.out.st.tk);go_wp2_with fail
  rw[<-u.out];clear u y P z3 A;refine o.out.mono ?_;rintro e w2 ⟨_,m,s2,rfl,⟨q2,L2,rfl,Q,Y,X,T⟩,j,q,hs⟩;have V:=hid (Sim.next R.out hs);have f:=hid (E.out.read j q);have O:=hid (QRow.cov (Q) (Kd.covs kPush) (qq w2 k.out));have N2:=hid (And.intro Y X);have P2:=hid T;have k:Hid (B0<=w2.heap.size):=zoz k.out j.size;clear Q Y X T;clear o j q hs E;have y:=f.out.box.cell (i:=0) rfl;have b2:=f.out.box.cell (i:=2) rfl;have z2:=f.out.box.fz 2;have A:=f.out.box.lt;obtain⟨V2,eV⟩:∃W,W=(w2.setCell ⟨bx,2,none⟩ (.slice q2.a q2.n q2.c)):=⟨_,rfl⟩;have G:Hid (TS2 p a c zs 65 rb bx w s2 [.int .i64 0,.int .i64 0,.slice none 0 0,.int .i64 0,.int .i64 0] [.int .i64 3,.int .i64 0,.slice q2.a q2.n q2.c,.int .i64 g,.int .i64 0] V2):=by rw[eV];exact(f.out.put 2 (.slice q2.a q2.n q2.c))
  have u:=hid eV;have O:=hid (O.out.step (Kd.keeps kPush) (Hi.low (by rw[eV];exact((Hi.refl B0 w2).put l.out.2.2 2 (.slice q2.a q2.n q2.c)):Hi B0 w2 V2) (zos _)))
  have k:Hid (B0<=V2.heap.size):=by show B0<=_;rw[eV];simpa[World.setCell]using k.out
  clear eV f;have o:=hid (zpk G.out.st.tk);go_wp2_with fail
  rw[<-u.out];clear u y b2 z2 A;refine o.out.mono ?_;rintro e N ⟨_,r,s3,rfl,⟨rfl,wf⟩,j,q,hs⟩;have M3:=hid (Sim.next V.out hs);have d:=hid (G.out.read j q);have O:=hid (O.out.step (Kd.keeps kPush) (Hi.low (Hi.rn j l.out.1) (zos _)));have k:Hid (B0<=N.heap.size):=zoz k.out j.size;have L:=hid wf;clear wf;clear o j q hs G;have y:=d.out.box.cell (i:=0) rfl;have b4:=d.out.box.cell (i:=4) rfl;have z4:=d.out.box.fz 4;have A:=d.out.box.lt;have y:=d.out.box.cell (i:=0) rfl;have r0:=d.out.st.box.cell (i:=0) rfl;have y0:=d.out.st.box.fz 0;have Z:=d.out.box.cell (i:=1) rfl;have r1:=d.out.st.box.cell (i:=1) rfl;have y1:=d.out.st.box.fz 1;have b2:=d.out.box.cell (i:=2) rfl;have r2:=d.out.st.box.cell (i:=2) rfl;have y2:=d.out.st.box.fz 2;have P:=d.out.box.cell (i:=3) rfl;have r3:=d.out.st.box.cell (i:=3) rfl;have y3:=d.out.st.box.fz 3;have b4:=d.out.box.cell (i:=4) rfl;have r4:=d.out.st.box.cell (i:=4) rfl;have y4:=d.out.st.box.fz 4;have z4:=d.out.box.fz 4;have A:=d.out.box.lt;have l1:=d.out.st.box.lt;have n1:¬bx=rb:=by have:=d.out.lt;omega
  have n2:¬rb=bx:=by have:=d.out.lt;omega
  have D:=((((((d.out.put 4 (.int .i64 r)).putr 0 (.int .i64 3)).putr 1 (.int .i64 0)).putr 2 (.slice q2.a q2.n q2.c)).putr 3 (.int .i64 g)).putr 4 (.int .i64 r));have U:=QRow.cov (QRow.step O.out (Kd.keeps kPush) (Hi.low (((((((Hi.refl B0 N).put l.out.2.2 4 (.int .i64 r)).put l.out.2.1 0 (.int .i64 3)).put l.out.2.1 1 (.int .i64 0)).put l.out.2.1 2 (.slice q2.a q2.n q2.c)).put l.out.2.1 3 (.int .i64 g)).put l.out.2.1 4 (.int .i64 r)) (zos _))) (Kd.covs kPush) (qq _ F.out);have S:Hid (TD p a c zs s (zo7 zs) (zqq kNode NodeD.p zp3 w.heap.size) w (.returned (.agg #[.int .i64 3,.int .i64 0,.slice q2.a q2.n q2.c,.int .i64 g,.int .i64 r])) ((((((N.setCell ⟨bx,4,none⟩ (.int .i64 r)).setCell ⟨rb,0,none⟩ (.int .i64 3)).setCell ⟨rb,1,none⟩ (.int .i64 0)).setCell ⟨rb,2,none⟩ (.slice q2.a q2.n q2.c)).setCell ⟨rb,3,none⟩ (.int .i64 g)).setCell ⟨rb,4,none⟩ (.int .i64 r))):=⟨_,⟨3,0,some m,g,r⟩,s3,rfl,⟨⟨3,0,q2,L2,g,r⟩,rfl,⟨⟨J.out,rfl,N2.out.1,H.out,L.out⟩,U⟩,(by show(⟨3,0,_,_,_⟩:PNode)=⟨3,0,_,_,_⟩;rw[show L2=m.map zpV from(List.map_id _).symm.trans P2.out];rfl)⟩,D.st.rn,D.st.tk,M3.out⟩
  clear D U O N2 P2 d l F k;go_wp2;exact bodyPost_ret (v:=.agg #[.int .i64 3,.int .i64 0,.slice q2.a q2.n q2.c,.int .i64 g,.int .i64 r]) (by simp[results,Tryz.results80,go_sem, *]) rfl S.out
 have k3:(x==3)=false:=by simpa using h3
 by_cases h4:x=4
 ·subst h4;have R:=hid (Sim.eq M1.out (fun t=>(if_neg (by decide)).trans (if_pos rfl)))
  clear h3 k3;change Hid (TS2 p a c zs 65 rb bx w s1 [.int .i64 0,.int .i64 0,.slice none 0 0,.int .i64 0,.int .i64 0] [.int .i64 4,.int .i64 0,.slice none 0 0,.int .i64 0,.int .i64 0] M)at C
  obtain⟨V1,eV⟩:∃W,W=(M.setCell ⟨bx,3,none⟩ (.int .i64 g)):=⟨_,rfl⟩;have E:Hid (TS2 p a c zs 65 rb bx w s1 [.int .i64 0,.int .i64 0,.slice none 0 0,.int .i64 0,.int .i64 0] [.int .i64 4,.int .i64 0,.slice none 0 0,.int .i64 g,.int .i64 0] V1):=by rw[eV];exact(C.out.put 3 (.int .i64 g))
  have u:=hid eV;have k:Hid (B0<=V1.heap.size):=by show B0<=_;rw[eV];simpa[World.setCell]using k.out
  clear eV C;have o:=hid (zpk E.out.st.tk);go_wp2_with fail
  rw[<-u.out];clear u y P z3 A;refine o.out.mono ?_;rintro e w2 ⟨_,m,s2,rfl,⟨rfl,wf⟩,j,q,hs⟩;have V:=hid (Sim.next R.out hs);have f:=hid (E.out.read j q);have k:Hid (B0<=w2.heap.size):=zoz k.out j.size;have K:=hid wf;clear wf;clear o j q hs E;have y:=f.out.box.cell (i:=0) rfl;have Z:=f.out.box.cell (i:=1) rfl;have z1:=f.out.box.fz 1;have A:=f.out.box.lt;obtain⟨V2,eV⟩:∃W,W=(w2.setCell ⟨bx,1,none⟩ (.int .i64 m)):=⟨_,rfl⟩;have G:Hid (TS2 p a c zs 65 rb bx w s2 [.int .i64 0,.int .i64 0,.slice none 0 0,.int .i64 0,.int .i64 0] [.int .i64 4,.int .i64 m,.slice none 0 0,.int .i64 g,.int .i64 0] V2):=by rw[eV];exact(f.out.put 1 (.int .i64 m))
  have u:=hid eV;have k:Hid (B0<=V2.heap.size):=by show B0<=_;rw[eV];simpa[World.setCell]using k.out
  clear eV f;have o:=hid (zpk G.out.st.tk);go_wp2_with fail
  rw[<-u.out];clear u y Z z1 A;refine o.out.mono ?_;rintro e N ⟨_,r,s3,rfl,⟨rfl,wf⟩,j,q,hs⟩;have M3:=hid (Sim.next V.out hs);have d:=hid (G.out.read j q);have k:Hid (B0<=N.heap.size):=zoz k.out j.size;have L:=hid wf;clear wf;clear o j q hs G;have y:=d.out.box.cell (i:=0) rfl;have b4:=d.out.box.cell (i:=4) rfl;have z4:=d.out.box.fz 4;have A:=d.out.box.lt;have y:=d.out.box.cell (i:=0) rfl;have r0:=d.out.st.box.cell (i:=0) rfl;have y0:=d.out.st.box.fz 0;have Z:=d.out.box.cell (i:=1) rfl;have r1:=d.out.st.box.cell (i:=1) rfl;have y1:=d.out.st.box.fz 1;have b2:=d.out.box.cell (i:=2) rfl;have r2:=d.out.st.box.cell (i:=2) rfl;have y2:=d.out.st.box.fz 2;have P:=d.out.box.cell (i:=3) rfl;have r3:=d.out.st.box.cell (i:=3) rfl;have y3:=d.out.st.box.fz 3;have b4:=d.out.box.cell (i:=4) rfl;have r4:=d.out.st.box.cell (i:=4) rfl;have y4:=d.out.st.box.fz 4;have z4:=d.out.box.fz 4;have A:=d.out.box.lt;have l1:=d.out.st.box.lt;have n1:¬bx=rb:=by have:=d.out.lt;omega
  have n2:¬rb=bx:=by have:=d.out.lt;omega
  have D:=((((((d.out.put 4 (.int .i64 r)).putr 0 (.int .i64 4)).putr 1 (.int .i64 m)).putr 2 (.slice none 0 0)).putr 3 (.int .i64 g)).putr 4 (.int .i64 r));have S:Hid (TD p a c zs s (zo7 zs) (zqq kNode NodeD.p zp3 w.heap.size) w (.returned (.agg #[.int .i64 4,.int .i64 m,.slice none 0 0,.int .i64 g,.int .i64 r])) ((((((N.setCell ⟨bx,4,none⟩ (.int .i64 r)).setCell ⟨rb,0,none⟩ (.int .i64 4)).setCell ⟨rb,1,none⟩ (.int .i64 m)).setCell ⟨rb,2,none⟩ (.slice none 0 0)).setCell ⟨rb,3,none⟩ (.int .i64 g)).setCell ⟨rb,4,none⟩ (.int .i64 r))):=⟨_,⟨4,m,none,g,r⟩,s3,rfl,⟨⟨4,m,⟨none,0,0⟩,[],g,r⟩,rfl,⟨⟨J.out,K.out,fun _=>⟨rfl,rfl⟩,H.out,L.out⟩,rfl,by simp⟩,rfl⟩,D.st.rn,D.st.tk,M3.out⟩
  clear D d l F k;go_wp2;exact bodyPost_ret (v:=.agg #[.int .i64 4,.int .i64 m,.slice none 0 0,.int .i64 g,.int .i64 r]) (by simp[results,Tryz.results80,go_sem, *]) rfl S.out
 ·have k4:(x==4)=false:=by simpa using h4
  have R:=hid (Sim.eq M1.out (fun t=>(if_neg h3).trans (if_neg h4)))
  obtain⟨V1,eV⟩:∃W,W=(M.setCell ⟨bx,3,none⟩ (.int .i64 g)):=⟨_,rfl⟩;have E:Hid (TS2 p a c zs 65 rb bx w s1 [.int .i64 0,.int .i64 0,.slice none 0 0,.int .i64 0,.int .i64 0] [.int .i64 x,.int .i64 0,.slice none 0 0,.int .i64 g,.int .i64 0] V1):=by rw[eV];exact(C.out.put 3 (.int .i64 g))
  have u:=hid eV;have k:Hid (B0<=V1.heap.size):=by show B0<=_;rw[eV];simpa[World.setCell]using k.out
  clear eV C;have o:=hid (zpk E.out.st.tk);go_wp2_with fail
  rw[<-u.out];clear u y P z3 A;refine o.out.mono ?_;rintro e w2 ⟨_,m,s2,rfl,⟨rfl,wf⟩,j,q,hs⟩;have V:=hid (Sim.next R.out hs);have f:=hid (E.out.read j q);have k:Hid (B0<=w2.heap.size):=zoz k.out j.size;have K:=hid wf;clear wf;clear o j q hs E;have y:=f.out.box.cell (i:=0) rfl;have Z:=f.out.box.cell (i:=1) rfl;have z1:=f.out.box.fz 1;have A:=f.out.box.lt;have y:=f.out.box.cell (i:=0) rfl;have r0:=f.out.st.box.cell (i:=0) rfl;have y0:=f.out.st.box.fz 0;have Z:=f.out.box.cell (i:=1) rfl;have r1:=f.out.st.box.cell (i:=1) rfl;have y1:=f.out.st.box.fz 1;have b2:=f.out.box.cell (i:=2) rfl;have r2:=f.out.st.box.cell (i:=2) rfl;have y2:=f.out.st.box.fz 2;have P:=f.out.box.cell (i:=3) rfl;have r3:=f.out.st.box.cell (i:=3) rfl;have y3:=f.out.st.box.fz 3;have b4:=f.out.box.cell (i:=4) rfl;have r4:=f.out.st.box.cell (i:=4) rfl;have y4:=f.out.st.box.fz 4;have z1:=f.out.box.fz 1;have A:=f.out.box.lt;have l1:=f.out.st.box.lt;have n1:¬bx=rb:=by have:=f.out.lt;omega
  have n2:¬rb=bx:=by have:=f.out.lt;omega
  have D:=((((((f.out.put 1 (.int .i64 m)).putr 0 (.int .i64 x)).putr 1 (.int .i64 m)).putr 2 (.slice none 0 0)).putr 3 (.int .i64 g)).putr 4 (.int .i64 0));have S:Hid (TD p a c zs s (zo7 zs) (zqq kNode NodeD.p zp3 w.heap.size) w (.returned (.agg #[.int .i64 x,.int .i64 m,.slice none 0 0,.int .i64 g,.int .i64 0])) ((((((w2.setCell ⟨bx,1,none⟩ (.int .i64 m)).setCell ⟨rb,0,none⟩ (.int .i64 x)).setCell ⟨rb,1,none⟩ (.int .i64 m)).setCell ⟨rb,2,none⟩ (.slice none 0 0)).setCell ⟨rb,3,none⟩ (.int .i64 g)).setCell ⟨rb,4,none⟩ (.int .i64 0))):=⟨_,⟨x,m,none,g,0⟩,s2,rfl,⟨⟨x,m,⟨none,0,0⟩,[],g,0⟩,rfl,⟨⟨J.out,K.out,fun _=>⟨rfl,rfl⟩,H.out,rfl⟩,rfl,by simp⟩,rfl⟩,D.st.rn,D.st.tk,V.out⟩
  clear D f l F k;go_wp2;exact bodyPost_ret (v:=.agg #[.int .i64 x,.int .i64 m,.slice none 0 0,.int .i64 g,.int .i64 0]) (by simp[results,Tryz.results80,go_sem, *]) rfl S.out
theorem zvg{p:Nat}{a:Option Addr}{c:Nat}{zs:List Int}{s:Except (Int × Int) Nat}{w:World}(h:Tk p a c zs s w):
 Calls Tryz.prog 78 #[.pointer (some ⟨p,0,none⟩)] w (TD p a c zs s (qc zs) (zqq kOp OpD.p zpS w.heap.size) w):=by
 obtain⟨W0,eW0⟩:∃W,W=w.alloc (.cells #[.int .i64 0,.int .i64 0,.int .i64 0,.int .i64 0,.slice none 0 0] 59):=⟨_,rfl⟩;obtain⟨rb,erb⟩:∃b,b=w.heap.size:=⟨_,rfl⟩;have R0:Hid (TSt p a c zs 59 rb w s [.int .i64 0,.int .i64 0,.int .i64 0,.int .i64 0,.slice none 0 0] W0):=by rw[eW0,erb];exact TSt.start h (Rn.refl _ _) _ _
 have HP:=hid h.lt;have EW:=hid eW0;have ER:=hid erb;have o:=hid (zpk R0.out.tk);clear h eW0 erb;go_enter Tryz.func78,Tryz.ntmps78
 go_wp2_with fail
 rw[<-EW.out,<-ER.out];clear EW ER;refine o.out.mono ?_;rintro e w0 ⟨_,x,s0,rfl,⟨rfl,wf⟩,l,q,hs⟩;have R:=hid (Sim.next (Sim.refl s (qc zs)) hs);have R1:=hid (R0.out.read l q);obtain⟨V0,eV⟩:∃W,W=w0.alloc (.cells #[.int .i64 x,.int .i64 0,.int .i64 0,.int .i64 0,.slice none 0 0] 59):=⟨_,rfl⟩;obtain⟨bx,ebx⟩:∃b,b=w0.heap.size:=⟨_,rfl⟩;have j:Hid (TS2 p a c zs 59 rb bx w s0 [.int .i64 0,.int .i64 0,.int .i64 0,.int .i64 0,.slice none 0 0] [.int .i64 x,.int .i64 0,.int .i64 0,.int .i64 0,.slice none 0 0] V0):=by rw[eV,ebx];exact TS2.start R1.out _
 have F:=hid wf;obtain⟨B0,eB0⟩:∃B,B=V0.heap.size:=⟨_,rfl⟩;have k:Hid (p<B0/\rb<B0/\bx<B0):=⟨by rw[eB0];exact j.out.st.tk.lt,by rw[eB0];exact j.out.st.box.lt,by rw[eB0];exact j.out.box.lt⟩
 have A:Hid (w.heap.size<=B0):=by show _<=B0;rw[eB0];exact j.out.st.rn.size
 have m:Hid (B0<=V0.heap.size):=by show B0<=_;rw[eB0];exact zos _
 have y:=hid eV;have G:=hid ebx;clear o R0 R1 l q hs wf eV ebx eB0;by_cases P:x=1
 ·subst P;have I:=hid (Sim.eq R.out (fun t=>(if_pos rfl)))
  change Hid (TS2 p a c zs 59 rb bx w s0 [.int .i64 0,.int .i64 0,.int .i64 0,.int .i64 0,.slice none 0 0] [.int .i64 1,.int .i64 0,.int .i64 0,.int .i64 0,.slice none 0 0] V0)at j
  have o:=hid (ztW j.out.st.tk);go_wp2_with fail
  rw[<-y.out,<-G.out];clear y G;refine o.out.mono ?_;rintro e C ⟨_,f,s1,rfl,⟨rfl,T,wf⟩,l,q,hs⟩;have K:=hid (Sim.next I.out hs);have d:=hid (j.out.read l q);have m:Hid (B0<=C.heap.size):=zoz m.out l.size;have u:=hid (And.intro T wf);clear T wf;clear o l q hs j;have D:=d.out.box.cell (i:=0) rfl;have M:=d.out.box.cell (i:=1) rfl;have L:=d.out.box.cell (i:=2) rfl;have z1:=d.out.box.fz 1;have z2:=d.out.box.fz 2;have E:=d.out.box.lt;obtain⟨V1,eV⟩:∃W,W=((C.setCell ⟨bx,1,none⟩ (.int .i64 f.1)).setCell ⟨bx,2,none⟩ (.int .i64 f.2)):=⟨_,rfl⟩;have O:Hid (TS2 p a c zs 59 rb bx w s1 [.int .i64 0,.int .i64 0,.int .i64 0,.int .i64 0,.slice none 0 0] [.int .i64 1,.int .i64 f.1,.int .i64 f.2,.int .i64 0,.slice none 0 0] V1):=by rw[eV];exact((d.out.put 1 (.int .i64 f.1)).put 2 (.int .i64 f.2))
  have y:=hid eV;have m:Hid (B0<=V1.heap.size):=by show B0<=_;rw[eV];simpa[World.setCell]using m.out
  clear eV d;have o:=hid (ztX O.out.st.tk);go_wp2_with fail
  rw[<-y.out];clear y D M L z1 z2 E;refine o.out.mono ?_;rintro e w2 ⟨_,H,s2,rfl,⟨q2,L2,rfl,a8,a3,a2,a1⟩,l,q,hs⟩;have M2:=hid (Sim.next K.out hs);have g:=hid (O.out.read l q);have Q2:=hid (QRow.cov (a8) (Kd.covs kPush) (qq w2 m.out));have N2:=hid (And.intro a3 a2);have P2:=hid a1;have m:Hid (B0<=w2.heap.size):=zoz m.out l.size;clear a8 a3 a2 a1;clear o l q hs O;have D:=g.out.box.cell (i:=0) rfl;have Q:=g.out.box.cell (i:=4) rfl;have z4:=g.out.box.fz 4;have E:=g.out.box.lt;have D:=g.out.box.cell (i:=0) rfl;have r0:=g.out.st.box.cell (i:=0) rfl;have V:=g.out.st.box.fz 0;have M:=g.out.box.cell (i:=1) rfl;have r1:=g.out.st.box.cell (i:=1) rfl;have y1:=g.out.st.box.fz 1;have L:=g.out.box.cell (i:=2) rfl;have r2:=g.out.st.box.cell (i:=2) rfl;have y2:=g.out.st.box.fz 2;have N:=g.out.box.cell (i:=3) rfl;have r3:=g.out.st.box.cell (i:=3) rfl;have y3:=g.out.st.box.fz 3;have Q:=g.out.box.cell (i:=4) rfl;have r4:=g.out.st.box.cell (i:=4) rfl;have y4:=g.out.st.box.fz 4;have z4:=g.out.box.fz 4;have E:=g.out.box.lt;have l1:=g.out.st.box.lt;have Z:¬bx=rb:=by have:=g.out.lt;omega
  have n2:¬rb=bx:=by have:=g.out.lt;omega
  have r:=((((((g.out.put 4 (.slice q2.a q2.n q2.c)).putr 0 (.int .i64 1)).putr 1 (.int .i64 f.1)).putr 2 (.int .i64 f.2)).putr 3 (.int .i64 0)).putr 4 (.slice q2.a q2.n q2.c));have a5:=QRow.cov (QRow.step Q2.out (Kd.keeps kPush) (Hi.low (((((((Hi.refl B0 w2).put k.out.2.2 4 (.slice q2.a q2.n q2.c)).put k.out.2.1 0 (.int .i64 1)).put k.out.2.1 1 (.int .i64 f.1)).put k.out.2.1 2 (.int .i64 f.2)).put k.out.2.1 3 (.int .i64 0)).put k.out.2.1 4 (.slice q2.a q2.n q2.c)) (zos _))) (Kd.covs kPush) (qq _ A.out);have J:Hid (TD p a c zs s (qc zs) (zqq kOp OpD.p zpS w.heap.size) w (.returned (.agg #[.int .i64 1,.int .i64 f.1,.int .i64 f.2,.int .i64 0,.slice q2.a q2.n q2.c])) ((((((w2.setCell ⟨bx,4,none⟩ (.slice q2.a q2.n q2.c)).setCell ⟨rb,0,none⟩ (.int .i64 1)).setCell ⟨rb,1,none⟩ (.int .i64 f.1)).setCell ⟨rb,2,none⟩ (.int .i64 f.2)).setCell ⟨rb,3,none⟩ (.int .i64 0)).setCell ⟨rb,4,none⟩ (.slice q2.a q2.n q2.c))):=⟨_,⟨1,f.1,f.2,0,some H⟩,s2,rfl,⟨⟨1,⟨f.1,f.2⟩,0,q2,L2⟩,rfl,⟨⟨F.out,u.out.1,u.out.2,rfl,N2.out.1⟩,a5⟩,(by show(⟨1,⟨f.1,f.2⟩,_,_⟩:POp)=⟨1,⟨f.1,f.2⟩,_,_⟩;rw[show L2=H.map zpV from(List.map_id _).symm.trans P2.out];rfl)⟩,r.st.rn,r.st.tk,M2.out⟩
  clear r a5 Q2 N2 P2 g k A m;go_wp2;exact bodyPost_ret (v:=.agg #[.int .i64 1,.int .i64 f.1,.int .i64 f.2,.int .i64 0,.slice q2.a q2.n q2.c]) (by simp[results,Tryz.results78,go_sem, *]) rfl J.out
 have k1:(x==1)=false:=by simpa using P
 by_cases S:x=2
 ·subst S;clear P k1;have I:=hid (Sim.eq R.out (fun t=>((if_neg (by decide)).trans (if_pos rfl))))
  change Hid (TS2 p a c zs 59 rb bx w s0 [.int .i64 0,.int .i64 0,.int .i64 0,.int .i64 0,.slice none 0 0] [.int .i64 2,.int .i64 0,.int .i64 0,.int .i64 0,.slice none 0 0] V0)at j
  have o:=hid (zpk j.out.st.tk);go_wp2_with fail
  rw[<-y.out,<-G.out];clear y G;refine o.out.mono ?_;rintro e C ⟨_,f,s1,rfl,⟨rfl,wf⟩,l,q,hs⟩;have K:=hid (Sim.next I.out hs);have d:=hid (j.out.read l q);have m:Hid (B0<=C.heap.size):=zoz m.out l.size;have u:=hid wf;clear wf;clear o l q hs j;have D:=d.out.box.cell (i:=0) rfl;have N:=d.out.box.cell (i:=3) rfl;have U:=d.out.box.fz 3;have E:=d.out.box.lt;have D:=d.out.box.cell (i:=0) rfl;have r0:=d.out.st.box.cell (i:=0) rfl;have V:=d.out.st.box.fz 0;have M:=d.out.box.cell (i:=1) rfl;have r1:=d.out.st.box.cell (i:=1) rfl;have y1:=d.out.st.box.fz 1;have L:=d.out.box.cell (i:=2) rfl;have r2:=d.out.st.box.cell (i:=2) rfl;have y2:=d.out.st.box.fz 2;have N:=d.out.box.cell (i:=3) rfl;have r3:=d.out.st.box.cell (i:=3) rfl;have y3:=d.out.st.box.fz 3;have Q:=d.out.box.cell (i:=4) rfl;have r4:=d.out.st.box.cell (i:=4) rfl;have y4:=d.out.st.box.fz 4;have U:=d.out.box.fz 3;have E:=d.out.box.lt;have l1:=d.out.st.box.lt;have Z:¬bx=rb:=by have:=d.out.lt;omega
  have n2:¬rb=bx:=by have:=d.out.lt;omega
  have r:=((((((d.out.put 3 (.int .i64 f)).putr 0 (.int .i64 2)).putr 1 (.int .i64 0)).putr 2 (.int .i64 0)).putr 3 (.int .i64 f)).putr 4 (.slice none 0 0));have J:Hid (TD p a c zs s (qc zs) (zqq kOp OpD.p zpS w.heap.size) w (.returned (.agg #[.int .i64 2,.int .i64 0,.int .i64 0,.int .i64 f,.slice none 0 0])) ((((((C.setCell ⟨bx,3,none⟩ (.int .i64 f)).setCell ⟨rb,0,none⟩ (.int .i64 2)).setCell ⟨rb,1,none⟩ (.int .i64 0)).setCell ⟨rb,2,none⟩ (.int .i64 0)).setCell ⟨rb,3,none⟩ (.int .i64 f)).setCell ⟨rb,4,none⟩ (.slice none 0 0))):=⟨_,⟨2,0,0,f,none⟩,s1,rfl,⟨⟨2,⟨0,0⟩,f,⟨none,0,0⟩,[]⟩,rfl,⟨⟨F.out,rfl,rfl,u.out,fun _=>⟨rfl,rfl⟩⟩,⟨rfl,by simp⟩⟩,rfl⟩,r.st.rn,r.st.tk,K.out⟩
  clear r d k A m;go_wp2;exact bodyPost_ret (v:=.agg #[.int .i64 2,.int .i64 0,.int .i64 0,.int .i64 f,.slice none 0 0]) (by simp[results,Tryz.results78,go_sem, *]) rfl J.out
 have k2:(x==2)=false:=by simpa using S
 by_cases Y:x=3
 ·subst Y;clear P k1 S k2;have I:=hid (Sim.eq R.out (fun t=>((if_neg (by decide)).trans ((if_neg (by decide)).trans (if_pos rfl)))))
  change Hid (TS2 p a c zs 59 rb bx w s0 [.int .i64 0,.int .i64 0,.int .i64 0,.int .i64 0,.slice none 0 0] [.int .i64 3,.int .i64 0,.int .i64 0,.int .i64 0,.slice none 0 0] V0)at j
  have o:=hid (zpk j.out.st.tk);go_wp2_with fail
  rw[<-y.out,<-G.out];clear y G;refine o.out.mono ?_;rintro e C ⟨_,f,s1,rfl,⟨rfl,wf⟩,l,q,hs⟩;have K:=hid (Sim.next I.out hs);have d:=hid (j.out.read l q);have m:Hid (B0<=C.heap.size):=zoz m.out l.size;have u:=hid wf;clear wf;clear o l q hs j;have D:=d.out.box.cell (i:=0) rfl;have N:=d.out.box.cell (i:=3) rfl;have U:=d.out.box.fz 3;have E:=d.out.box.lt;have D:=d.out.box.cell (i:=0) rfl;have r0:=d.out.st.box.cell (i:=0) rfl;have V:=d.out.st.box.fz 0;have M:=d.out.box.cell (i:=1) rfl;have r1:=d.out.st.box.cell (i:=1) rfl;have y1:=d.out.st.box.fz 1;have L:=d.out.box.cell (i:=2) rfl;have r2:=d.out.st.box.cell (i:=2) rfl;have y2:=d.out.st.box.fz 2;have N:=d.out.box.cell (i:=3) rfl;have r3:=d.out.st.box.cell (i:=3) rfl;have y3:=d.out.st.box.fz 3;have Q:=d.out.box.cell (i:=4) rfl;have r4:=d.out.st.box.cell (i:=4) rfl;have y4:=d.out.st.box.fz 4;have U:=d.out.box.fz 3;have E:=d.out.box.lt;have l1:=d.out.st.box.lt;have Z:¬bx=rb:=by have:=d.out.lt;omega
  have n2:¬rb=bx:=by have:=d.out.lt;omega
  have r:=((((((d.out.put 3 (.int .i64 f)).putr 0 (.int .i64 3)).putr 1 (.int .i64 0)).putr 2 (.int .i64 0)).putr 3 (.int .i64 f)).putr 4 (.slice none 0 0));have J:Hid (TD p a c zs s (qc zs) (zqq kOp OpD.p zpS w.heap.size) w (.returned (.agg #[.int .i64 3,.int .i64 0,.int .i64 0,.int .i64 f,.slice none 0 0])) ((((((C.setCell ⟨bx,3,none⟩ (.int .i64 f)).setCell ⟨rb,0,none⟩ (.int .i64 3)).setCell ⟨rb,1,none⟩ (.int .i64 0)).setCell ⟨rb,2,none⟩ (.int .i64 0)).setCell ⟨rb,3,none⟩ (.int .i64 f)).setCell ⟨rb,4,none⟩ (.slice none 0 0))):=⟨_,⟨3,0,0,f,none⟩,s1,rfl,⟨⟨3,⟨0,0⟩,f,⟨none,0,0⟩,[]⟩,rfl,⟨⟨F.out,rfl,rfl,u.out,fun _=>⟨rfl,rfl⟩⟩,⟨rfl,by simp⟩⟩,rfl⟩,r.st.rn,r.st.tk,K.out⟩
  clear r d k A m;go_wp2;exact bodyPost_ret (v:=.agg #[.int .i64 3,.int .i64 0,.int .i64 0,.int .i64 f,.slice none 0 0]) (by simp[results,Tryz.results78,go_sem, *]) rfl J.out
 have k3:(x==3)=false:=by simpa using Y
 by_cases h5:x=5
 ·subst h5;clear P k1 S k2 Y k3;have I:=hid (Sim.eq R.out (fun t=>((if_neg (by decide)).trans ((if_neg (by decide)).trans ((if_neg (by decide)).trans (if_pos rfl))))))
  change Hid (TS2 p a c zs 59 rb bx w s0 [.int .i64 0,.int .i64 0,.int .i64 0,.int .i64 0,.slice none 0 0] [.int .i64 5,.int .i64 0,.int .i64 0,.int .i64 0,.slice none 0 0] V0)at j
  have o:=hid (ztX j.out.st.tk);go_wp2_with fail
  rw[<-y.out,<-G.out];clear y G;refine o.out.mono ?_;rintro e C ⟨_,f,s1,rfl,⟨q1,L1,rfl,a4,a6,a0,a7⟩,l,q,hs⟩;have K:=hid (Sim.next I.out hs);have d:=hid (j.out.read l q);have Q1:=hid (QRow.cov (a4) (Kd.covs kPush) (qq C m.out));have N1:=hid (And.intro a6 a0);have P1:=hid a7;have m:Hid (B0<=C.heap.size):=zoz m.out l.size;clear a4 a6 a0 a7;clear o l q hs j;have D:=d.out.box.cell (i:=0) rfl;have Q:=d.out.box.cell (i:=4) rfl;have z4:=d.out.box.fz 4;have E:=d.out.box.lt;have D:=d.out.box.cell (i:=0) rfl;have r0:=d.out.st.box.cell (i:=0) rfl;have V:=d.out.st.box.fz 0;have M:=d.out.box.cell (i:=1) rfl;have r1:=d.out.st.box.cell (i:=1) rfl;have y1:=d.out.st.box.fz 1;have L:=d.out.box.cell (i:=2) rfl;have r2:=d.out.st.box.cell (i:=2) rfl;have y2:=d.out.st.box.fz 2;have N:=d.out.box.cell (i:=3) rfl;have r3:=d.out.st.box.cell (i:=3) rfl;have y3:=d.out.st.box.fz 3;have Q:=d.out.box.cell (i:=4) rfl;have r4:=d.out.st.box.cell (i:=4) rfl;have y4:=d.out.st.box.fz 4;have z4:=d.out.box.fz 4;have E:=d.out.box.lt;have l1:=d.out.st.box.lt;have Z:¬bx=rb:=by have:=d.out.lt;omega
  have n2:¬rb=bx:=by have:=d.out.lt;omega
  have r:=((((((d.out.put 4 (.slice q1.a q1.n q1.c)).putr 0 (.int .i64 5)).putr 1 (.int .i64 0)).putr 2 (.int .i64 0)).putr 3 (.int .i64 0)).putr 4 (.slice q1.a q1.n q1.c));have X:=QRow.cov (QRow.step Q1.out (Kd.keeps kPush) (Hi.low (((((((Hi.refl B0 C).put k.out.2.2 4 (.slice q1.a q1.n q1.c)).put k.out.2.1 0 (.int .i64 5)).put k.out.2.1 1 (.int .i64 0)).put k.out.2.1 2 (.int .i64 0)).put k.out.2.1 3 (.int .i64 0)).put k.out.2.1 4 (.slice q1.a q1.n q1.c)) (zos _))) (Kd.covs kPush) (qq _ A.out);have J:Hid (TD p a c zs s (qc zs) (zqq kOp OpD.p zpS w.heap.size) w (.returned (.agg #[.int .i64 5,.int .i64 0,.int .i64 0,.int .i64 0,.slice q1.a q1.n q1.c])) ((((((C.setCell ⟨bx,4,none⟩ (.slice q1.a q1.n q1.c)).setCell ⟨rb,0,none⟩ (.int .i64 5)).setCell ⟨rb,1,none⟩ (.int .i64 0)).setCell ⟨rb,2,none⟩ (.int .i64 0)).setCell ⟨rb,3,none⟩ (.int .i64 0)).setCell ⟨rb,4,none⟩ (.slice q1.a q1.n q1.c))):=⟨_,⟨5,0,0,0,some f⟩,s1,rfl,⟨⟨5,⟨0,0⟩,0,q1,L1⟩,rfl,⟨⟨F.out,rfl,rfl,rfl,N1.out.1⟩,X⟩,(by show(⟨5,⟨0,0⟩,_,_⟩:POp)=⟨5,⟨0,0⟩,_,_⟩;rw[show L1=f.map zpV from(List.map_id _).symm.trans P1.out];rfl)⟩,r.st.rn,r.st.tk,K.out⟩
  clear r X Q1 N1 P1 d k A m;go_wp2;exact bodyPost_ret (v:=.agg #[.int .i64 5,.int .i64 0,.int .i64 0,.int .i64 0,.slice q1.a q1.n q1.c]) (by simp[results,Tryz.results78,go_sem, *]) rfl J.out
 have k5:(x==5)=false:=by simpa using h5
 by_cases h6:x=6
 ·subst h6;clear P k1 S k2 Y k3 h5 k5;have I:=hid (Sim.eq R.out (fun t=>((if_neg (by decide)).trans ((if_neg (by decide)).trans ((if_neg (by decide)).trans ((if_neg (by decide)).trans (if_pos rfl)))))))
  change Hid (TS2 p a c zs 59 rb bx w s0 [.int .i64 0,.int .i64 0,.int .i64 0,.int .i64 0,.slice none 0 0] [.int .i64 6,.int .i64 0,.int .i64 0,.int .i64 0,.slice none 0 0] V0)at j
  have o:=hid (ztW j.out.st.tk);go_wp2_with fail
  rw[<-y.out,<-G.out];clear y G;refine o.out.mono ?_;rintro e C ⟨_,f,s1,rfl,⟨rfl,T,wf⟩,l,q,hs⟩;have K:=hid (Sim.next I.out hs);have d:=hid (j.out.read l q);have m:Hid (B0<=C.heap.size):=zoz m.out l.size;have u:=hid (And.intro T wf);clear T wf;clear o l q hs j;have D:=d.out.box.cell (i:=0) rfl;have M:=d.out.box.cell (i:=1) rfl;have L:=d.out.box.cell (i:=2) rfl;have z1:=d.out.box.fz 1;have z2:=d.out.box.fz 2;have E:=d.out.box.lt;obtain⟨V1,eV⟩:∃W,W=((C.setCell ⟨bx,1,none⟩ (.int .i64 f.1)).setCell ⟨bx,2,none⟩ (.int .i64 f.2)):=⟨_,rfl⟩;have O:Hid (TS2 p a c zs 59 rb bx w s1 [.int .i64 0,.int .i64 0,.int .i64 0,.int .i64 0,.slice none 0 0] [.int .i64 6,.int .i64 f.1,.int .i64 f.2,.int .i64 0,.slice none 0 0] V1):=by rw[eV];exact((d.out.put 1 (.int .i64 f.1)).put 2 (.int .i64 f.2))
  have y:=hid eV;have m:Hid (B0<=V1.heap.size):=by show B0<=_;rw[eV];simpa[World.setCell]using m.out
  clear eV d;have o:=hid (zpk O.out.st.tk);go_wp2_with fail
  rw[<-y.out];clear y D M L z1 z2 E;refine o.out.mono ?_;rintro e w2 ⟨_,H,s2,rfl,⟨rfl,wf⟩,l,q,hs⟩;have M2:=hid (Sim.next K.out hs);have g:=hid (O.out.read l q);have m:Hid (B0<=w2.heap.size):=zoz m.out l.size;have a9:=hid wf;clear wf;clear o l q hs O;have D:=g.out.box.cell (i:=0) rfl;have N:=g.out.box.cell (i:=3) rfl;have U:=g.out.box.fz 3;have E:=g.out.box.lt;have D:=g.out.box.cell (i:=0) rfl;have r0:=g.out.st.box.cell (i:=0) rfl;have V:=g.out.st.box.fz 0;have M:=g.out.box.cell (i:=1) rfl;have r1:=g.out.st.box.cell (i:=1) rfl;have y1:=g.out.st.box.fz 1;have L:=g.out.box.cell (i:=2) rfl;have r2:=g.out.st.box.cell (i:=2) rfl;have y2:=g.out.st.box.fz 2;have N:=g.out.box.cell (i:=3) rfl;have r3:=g.out.st.box.cell (i:=3) rfl;have y3:=g.out.st.box.fz 3;have Q:=g.out.box.cell (i:=4) rfl;have r4:=g.out.st.box.cell (i:=4) rfl;have y4:=g.out.st.box.fz 4;have U:=g.out.box.fz 3;have E:=g.out.box.lt;have l1:=g.out.st.box.lt;have Z:¬bx=rb:=by have:=g.out.lt;omega
  have n2:¬rb=bx:=by have:=g.out.lt;omega
  have r:=((((((g.out.put 3 (.int .i64 H)).putr 0 (.int .i64 6)).putr 1 (.int .i64 f.1)).putr 2 (.int .i64 f.2)).putr 3 (.int .i64 H)).putr 4 (.slice none 0 0));have J:Hid (TD p a c zs s (qc zs) (zqq kOp OpD.p zpS w.heap.size) w (.returned (.agg #[.int .i64 6,.int .i64 f.1,.int .i64 f.2,.int .i64 H,.slice none 0 0])) ((((((w2.setCell ⟨bx,3,none⟩ (.int .i64 H)).setCell ⟨rb,0,none⟩ (.int .i64 6)).setCell ⟨rb,1,none⟩ (.int .i64 f.1)).setCell ⟨rb,2,none⟩ (.int .i64 f.2)).setCell ⟨rb,3,none⟩ (.int .i64 H)).setCell ⟨rb,4,none⟩ (.slice none 0 0))):=⟨_,⟨6,f.1,f.2,H,none⟩,s2,rfl,⟨⟨6,⟨f.1,f.2⟩,H,⟨none,0,0⟩,[]⟩,rfl,⟨⟨F.out,u.out.1,u.out.2,a9.out,fun _=>⟨rfl,rfl⟩⟩,⟨rfl,by simp⟩⟩,rfl⟩,r.st.rn,r.st.tk,M2.out⟩
  clear r g k A m;go_wp2;exact bodyPost_ret (v:=.agg #[.int .i64 6,.int .i64 f.1,.int .i64 f.2,.int .i64 H,.slice none 0 0]) (by simp[results,Tryz.results78,go_sem, *]) rfl J.out
 have k6:(x==6)=false:=by simpa using h6
 have I:=hid (Sim.eq R.out (fun t=>((if_neg P).trans ((if_neg S).trans ((if_neg Y).trans ((if_neg h5).trans (if_neg h6)))))))
 go_upto_region 2 with fail
 rw[<-y.out,<-G.out];clear y G;have D:=j.out.box.cell (i:=0) rfl;have r0:=j.out.st.box.cell (i:=0) rfl;have V:=j.out.st.box.fz 0;have M:=j.out.box.cell (i:=1) rfl;have r1:=j.out.st.box.cell (i:=1) rfl;have y1:=j.out.st.box.fz 1;have L:=j.out.box.cell (i:=2) rfl;have r2:=j.out.st.box.cell (i:=2) rfl;have y2:=j.out.st.box.fz 2;have N:=j.out.box.cell (i:=3) rfl;have r3:=j.out.st.box.cell (i:=3) rfl;have y3:=j.out.st.box.fz 3;have Q:=j.out.box.cell (i:=4) rfl;have r4:=j.out.st.box.cell (i:=4) rfl;have y4:=j.out.st.box.fz 4;have E:=j.out.box.lt;have l1:=j.out.st.box.lt;have Z:¬bx=rb:=by have:=j.out.lt;omega
 have n2:¬rb=bx:=by have:=j.out.lt;omega
 have r:=(((((j.out.putr 0 (.int .i64 x)).putr 1 (.int .i64 0)).putr 2 (.int .i64 0)).putr 3 (.int .i64 0)).putr 4 (.slice none 0 0));have J:Hid (TD p a c zs s (qc zs) (zqq kOp OpD.p zpS w.heap.size) w (.returned (.agg #[.int .i64 x,.int .i64 0,.int .i64 0,.int .i64 0,.slice none 0 0])) (((((V0.setCell ⟨rb,0,none⟩ (.int .i64 x)).setCell ⟨rb,1,none⟩ (.int .i64 0)).setCell ⟨rb,2,none⟩ (.int .i64 0)).setCell ⟨rb,3,none⟩ (.int .i64 0)).setCell ⟨rb,4,none⟩ (.slice none 0 0))):=⟨_,⟨x,0,0,0,none⟩,s0,rfl,⟨⟨x,⟨0,0⟩,0,⟨none,0,0⟩,[]⟩,rfl,⟨⟨F.out,rfl,rfl,rfl,fun _=>⟨rfl,rfl⟩⟩,⟨rfl,by simp⟩⟩,rfl⟩,r.st.rn,r.st.tk,I.out⟩
 clear r j k A m;go_wp2;exact bodyPost_ret (v:=.agg #[.int .i64 x,.int .i64 0,.int .i64 0,.int .i64 0,.slice none 0 0]) (by simp[results,Tryz.results78,go_sem, *]) rfl J.out
theorem zlP(k:Int):kr k<=3:=by unfold kr;split<;>omega
theorem zlQ(lo hi x:Int):InC lo hi [x]=false↔¬(lo<=x/\x<=hi):=by simp[InC]
theorem zbo{lo hi:Int}{L:List Int}{k:Nat}{x:Int}(h:L[k]?=some x):InC lo hi (L.drop k)=(decide (lo<=x/\x<=hi)&&InC lo hi (L.drop (k+1))):=by
 obtain⟨a,e⟩:=zok.1 h;rw[zoM a,e];rfl
theorem zeZ(t:PTab)(a:List Int)(al:List PAct):zJ t a al=if¬(1<=t.kind/\t.kind<=3)then 5 else if¬(1<=(a.length:Int)/\(a.length:Int)<=kr t.kind)\/¬(1<=(t.al.length:Int)/\(t.al.length:Int)<=4)then 2 else if¬(0<=t.cap/\t.cap<=16)then 1 else if InC 1 48 a=false then 6 else if InC 0 ((al.length:Int)-1) t.al=false then 1 else xM al t.al t.dflt t.zs:=by
 have b:isK t.kind=false↔¬(1<=t.kind/\t.kind<=3):=by unfold isK;rw[decide_eq_false_iff_not];omega
 unfold zJ;simp only[b,zlQ]
theorem zkp(t:TabD)(wq:QSl)(o:List Int)(A:QSl)(al:List ActD)(w:World)(hw:Has .i64 w wq.a wq.n o)(ht:Has .i64 w t.acts.a t.acts.n t.al)(hz:Has .u64 w t.args.a t.args.n t.zs)(ha:QRow 2 ActD.lie w A al)(a4:∀x∈al,∀y∈x.ws,1<=y/\y<=64)(a0:∀x∈al,x.w.n<=100000)(a2:t.acts.n<=100000):
 Calls Tryz.prog 27 #[t.v',.slice wq.a wq.n wq.c,.slice A.a A.n A.c] w fun e w'=>e=.returned (.int .i64 (zJ t.p o (al.map ActD.p)))/\Below w.heap.size w w':=by
 have d:Hid (zJ t.p o (al.map ActD.p)=if¬(1<=t.kind/\t.kind<=3)then 5 else if¬(1<=(wq.n:Int)/\(wq.n:Int)<=kr t.kind)\/¬(1<=(t.acts.n:Int)/\(t.acts.n:Int)<=4)then 2 else if¬(0<=t.cap/\t.cap<=16)then 1 else if InC 1 48 o=false then 6 else if InC 0 ((A.n:Int)-1) t.al=false then 1 else xM (al.map ActD.p) t.al t.dflt t.zs):=by
  show zJ t.p o (al.map ActD.p)=_;rw[zeZ,hw.1,zoE,ha.1,show t.p.al.length=t.acts.n from ht.1]
  rfl
 have r:Hid (InC 0 ((A.n:Int)-1) t.al=true->∀w',Below w.heap.size w w'->Calls Tryz.prog 69 #[t.v',.slice A.a A.n A.c,.agg #[.int .i64 t.dflt,.slice t.args.a t.args.n t.args.c]] w' fun e a9=>e=.returned (.int .i64 (xM (al.map ActD.p) t.al t.dflt t.zs))/\Below w'.heap.size w' a9):=fun a8 w' h=>
  zij t A al t.dflt t.args.a t.args.n t.args.c t.zs w' (ht.step h) a2 (ha.step ActD.keeps h) (fun i hi=>by
   have:=List.all_eq_true.1 a8 i hi;have:=of_decide_eq_true this;omega) a4 a0 (hz.step h)
 have HW:=hid hw;have HT:=hid ht;have a5:=hid hw.1;have a3:=hid ht.1;obtain⟨wa,ewa⟩:∃wa,wq.a=wa:=⟨_,rfl⟩;rw[ewa];have a1:=hid ewa;clear hw ht hz ha a4 a0 a2 ewa;by_cases kA:t.kind<1
 ·have a7:=zoY kA;have l:Hid (zJ t.p o (al.map ActD.p)=5):=by show _=_;rw[d.out];exact if_pos (by omega)
  clear r;go_enter Tryz.func27,Tryz.ntmps27
  go_wp2;go_ret;exact⟨by rw[l.out];rfl,ze (zof _ _)⟩
 have a7:=zoX kA;by_cases kB:3<t.kind
 ·have b3:=zoY kB;have l:Hid (zJ t.p o (al.map ActD.p)=5):=by show _=_;rw[d.out];exact if_pos (by omega)
  clear r;go_enter Tryz.func27,Tryz.ntmps27
  go_wp2;go_ret;exact⟨by rw[l.out];rfl,ze (zof _ _)⟩
 have b3:=zoX kB;have H:Hid (¬¬(1<=t.kind/\t.kind<=3)):=by show¬¬(1<=t.kind/\t.kind<=3);omega
 by_cases nA:(wq.n:Int)<1
 ·have a6:=zoY nA;have l:Hid (zJ t.p o (al.map ActD.p)=2):=by show _=_;rw[d.out];rw[if_neg H.out];exact if_pos (.inl (by omega))
  clear r;go_enter Tryz.func27,Tryz.ntmps27
  go_wp2;go_ret;exact⟨by rw[l.out];rfl,ze (zof _ _)⟩
 have a6:=zoX nA;by_cases nB:(3:Int)<(wq.n:Int)
 ·have b2:=zoY nB;have l:Hid (zJ t.p o (al.map ActD.p)=2):=by show _=_;rw[d.out];rw[if_neg H.out];exact if_pos (.inl (by have:=zlP t.kind;omega))
  clear r;go_enter Tryz.func27,Tryz.ntmps27
  go_wp2;go_ret;exact⟨by rw[l.out];rfl,ze (zof _ _)⟩
 have b2:=zoX nB;by_cases W:t.kind=2
 ·have e2:(t.kind==2)=true:=by simpa using W
  have MK:Hid (kr t.kind=1):=if_pos W;clear W;by_cases nC:(1:Int)<(wq.n:Int)
  ·have b1:=zoY nC;have l:Hid (zJ t.p o (al.map ActD.p)=2):=by show _=_;rw[d.out];rw[if_neg H.out];exact if_pos (.inl (by rw[MK.out];omega))
   clear r;go_enter Tryz.func27,Tryz.ntmps27
   go_wp2;go_ret;exact⟨by rw[l.out];rfl,ze (zof _ _)⟩
  have b1:=zoX nC;by_cases X:(t.acts.n:Int)<1
  ·have N:=zoY X;have l:Hid (zJ t.p o (al.map ActD.p)=2):=by show _=_;rw[d.out];rw[if_neg H.out];exact if_pos (.inr (by omega))
   clear r;go_enter Tryz.func27,Tryz.ntmps27
   go_wp2;go_ret;exact⟨by rw[l.out];rfl,ze (zof _ _)⟩
  have N:=zoX X;by_cases aB:(4:Int)<(t.acts.n:Int)
  ·have P:=zoY aB;have l:Hid (zJ t.p o (al.map ActD.p)=2):=by show _=_;rw[d.out];rw[if_neg H.out];exact if_pos (.inr (by omega))
   clear r;go_enter Tryz.func27,Tryz.ntmps27
   go_wp2;go_ret;exact⟨by rw[l.out];rfl,ze (zof _ _)⟩
  have P:=zoX aB;have L:Hid (¬(¬(1<=(wq.n:Int)/\(wq.n:Int)<=kr t.kind)\/¬(1<=(t.acts.n:Int)/\(t.acts.n:Int)<=4))):=by show¬(¬(1<=(wq.n:Int)/\(wq.n:Int)<=kr t.kind)\/¬(1<=(t.acts.n:Int)/\(t.acts.n:Int)<=4));rw[MK.out];omega
  by_cases Y:t.cap<0
  ·have R:=zoY Y;have l:Hid (zJ t.p o (al.map ActD.p)=1):=by show _=_;rw[d.out];rw[if_neg H.out,if_neg L.out];exact if_pos (by omega)
   clear r;go_enter Tryz.func27,Tryz.ntmps27
   go_wp2;go_ret;exact⟨by rw[l.out];rfl,ze (zof _ _)⟩
  have R:=zoX Y;by_cases cB:16<t.cap
  ·have T:=zoY cB;have l:Hid (zJ t.p o (al.map ActD.p)=1):=by show _=_;rw[d.out];rw[if_neg H.out,if_neg L.out];exact if_pos (by omega)
   clear r;go_enter Tryz.func27,Tryz.ntmps27
   go_wp2;go_ret;exact⟨by rw[l.out];rfl,ze (zof _ _)⟩
  have T:=zoX cB;rw[if_neg H.out,if_neg L.out,if_neg (by omega)]at d
  clear H L;have V:Hid (Below w.heap.size w (w.alloc t.box')):=ze (zof _ _);obtain⟨s,hW⟩:∃s,s=w.alloc t.box':=⟨_,rfl⟩;obtain⟨E,h0⟩:∃E,E=w.heap.size:=⟨_,rfl⟩;have z:∀i,s.cell? ⟨E,i,none⟩=(#[.int .i64 t.kind,.slice t.keys.a t.keys.n t.keys.c,.slice t.acts.a t.acts.n t.acts.c,.int .i64 t.cap,.int .i64 t.dflt,.slice t.args.a t.args.n t.args.c]:Array Value)[i]?:=fun i=>by rw[hW,h0];exact zod _ _ _ _ rfl
  have z0:s.cell? ⟨E,0,none⟩=some (.int .i64 t.kind):=z 0;have z1:s.cell? ⟨E,1,none⟩=some (.slice t.keys.a t.keys.n t.keys.c):=z 1;have z2:s.cell? ⟨E,2,none⟩=some (.slice t.acts.a t.acts.n t.acts.c):=z 2;have z3:s.cell? ⟨E,3,none⟩=some (.int .i64 t.cap):=z 3;have z4:s.cell? ⟨E,4,none⟩=some (.int .i64 t.dflt):=z 4;have z5:s.cell? ⟨E,5,none⟩=some (.slice t.args.a t.args.n t.args.c):=z 5;have F:Hid (Below w.heap.size w s):=by rw[hW];exact ze (zof _ _)
  have EW:=hid hW;have Z:=hid h0;clear hW h0 z V;go_enter Tryz.func27,Tryz.ntmps27
  go_wp2;rw[<-EW.out,<-Z.out];clear EW Z;go_loopw [7] (fun q wr=>∃k:Nat,k<=wq.n/\q=.int .i64 k/\Hid (InC 1 48 o=InC 1 48 (o.drop k))/\Hid (s=wr)) (fun q _=>wq.n-(intOf q).toNat)
  case atStart=>exact⟨0,zon _,rfl,rfl,rfl⟩
  case round=>
   obtain⟨k,hk,rfl,b,B⟩:=hrel;obtain rfl:=B.out;clear B;by_cases U:k<wq.n
   ·obtain⟨g,off,u,S,I,r0⟩:=xQ (HW.out.step F.out) U;obtain rfl:wa=some ⟨g,off,none⟩:=by rw[<-a1.out];exact S
    have O:(k:Int)<(wq.n:Int):=by omega
    have f:=zbo (lo:=1) (hi:=48) I;clear S I;by_cases C:u<1
    ·have f1:=zoY C;have l:Hid (zJ t.p o (al.map ActD.p)=6):=by show _=_;rw[d.out];exact if_pos (by rw[b.out,f,zoX (by omega)];rfl)
     clear f b C;go_wp2;go_ret;exact⟨by rw[l.out];rfl,F.out⟩
    have f1:=zoX C;by_cases G:48<u
    ·have f2:=zoY G;have l:Hid (zJ t.p o (al.map ActD.p)=6):=by show _=_;rw[d.out];exact if_pos (by rw[b.out,f,zoX (by omega)];rfl)
     clear f b C G;go_wp2;go_ret;exact⟨by rw[l.out];rfl,F.out⟩
    ·have f2:=zoX G;have l:Hid (InC 1 48 o=InC 1 48 (o.drop (k+1))):=by show _=_;rw[b.out,f,zoY (by omega)];rfl
     clear f b C G;go_wp2;go_roundw
     case rel=>exact⟨k+1,by omega,by go_num,l,trivial⟩
     case measure=>simp[intOf];omega
   ·have ek:k=wq.n:=by omega
    have O:¬(k:Int)<(wq.n:Int):=by omega
    have m:InC 1 48 o=true:=by rw[b.out,ek,<-a5.out,zoP];rfl
    have D:Hid (zJ t.p o (al.map ActD.p)=if InC 0 ((A.n:Int)-1) t.al=false then 1 else xM (al.map ActD.p) t.al t.dflt t.zs):=by show _=_;rw[d.out,if_neg (by rw[m];decide)]
    clear b ek m d;go_wp2;go_loopw [8] (fun q wr=>∃j:Nat,j<=t.acts.n/\q=.int .i64 j/\Hid (InC 0 ((A.n:Int)-1) t.al=InC 0 ((A.n:Int)-1) (t.al.drop j))/\Hid (s=wr)) (fun q _=>t.acts.n-(intOf q).toNat)
    case atStart=>exact⟨0,zon _,rfl,rfl,rfl⟩
    case round=>
     obtain⟨j,hj,rfl,b,B⟩:=hrel;obtain rfl:=B.out;clear B;by_cases Q:j<t.acts.n
     ·obtain⟨g,off,u,S,I,r0⟩:=xQ (HT.out.step F.out) Q;have M:(j:Int)<(t.acts.n:Int):=by omega
      have f:=zbo (lo:=0) (hi:=(A.n:Int)-1) I;clear I;by_cases C:u<0
      ·have f1:=zoY C;have l:Hid (zJ t.p o (al.map ActD.p)=1):=by show _=_;rw[D.out];exact if_pos (by rw[b.out,f,zoX (by omega)];rfl)
       clear f b C;go_wp2;go_ret;exact⟨by rw[l.out];rfl,F.out⟩
      have f1:=zoX C;by_cases G:(A.n:Int)<=u
      ·have f2:=zoY G;have l:Hid (zJ t.p o (al.map ActD.p)=1):=by show _=_;rw[D.out];exact if_pos (by rw[b.out,f,zoX (by omega)];rfl)
       clear f b C G;go_wp2;go_ret;exact⟨by rw[l.out];rfl,F.out⟩
      ·have f2:=zoX G;have l:Hid (InC 0 ((A.n:Int)-1) t.al=InC 0 ((A.n:Int)-1) (t.al.drop (j+1))):=by show _=_;rw[b.out,f,zoY (by omega)];rfl
       clear f b C G;go_wp2;go_roundw
       case rel=>exact⟨j+1,by omega,by go_num,l,trivial⟩
       case measure=>simp[intOf];omega
     ·have ej:j=t.acts.n:=by omega
      have M:¬(j:Int)<(t.acts.n:Int):=by omega
      have m:InC 0 ((A.n:Int)-1) t.al=true:=by rw[b.out,ej,<-a3.out,zoP];rfl
      have l:Hid (zJ t.p o (al.map ActD.p)=xM (al.map ActD.p) t.al t.dflt t.zs):=by show _=_;rw[D.out,if_neg (by rw[m];decide)]
      have J:=hid (r.out m s F.out);clear b ej m r D;go_wp2_with fail
      refine J.out.mono ?_;rintro e w2 ⟨rfl,K⟩;have HE:=hid (zh F.out K);clear J K F;go_wp2;go_ret;exact⟨by rw[l.out];rfl,HE.out⟩
 ·have e2:(t.kind==2)=false:=by simpa using W
  have MK:Hid (kr t.kind=3):=if_neg W;clear W;by_cases X:(t.acts.n:Int)<1
  ·have N:=zoY X;have l:Hid (zJ t.p o (al.map ActD.p)=2):=by show _=_;rw[d.out];rw[if_neg H.out];exact if_pos (.inr (by omega))
   clear r;go_enter Tryz.func27,Tryz.ntmps27
   go_wp2;go_ret;exact⟨by rw[l.out];rfl,ze (zof _ _)⟩
  have N:=zoX X;by_cases aB:(4:Int)<(t.acts.n:Int)
  ·have P:=zoY aB;have l:Hid (zJ t.p o (al.map ActD.p)=2):=by show _=_;rw[d.out];rw[if_neg H.out];exact if_pos (.inr (by omega))
   clear r;go_enter Tryz.func27,Tryz.ntmps27
   go_wp2;go_ret;exact⟨by rw[l.out];rfl,ze (zof _ _)⟩
  have P:=zoX aB;have L:Hid (¬(¬(1<=(wq.n:Int)/\(wq.n:Int)<=kr t.kind)\/¬(1<=(t.acts.n:Int)/\(t.acts.n:Int)<=4))):=by show¬(¬(1<=(wq.n:Int)/\(wq.n:Int)<=kr t.kind)\/¬(1<=(t.acts.n:Int)/\(t.acts.n:Int)<=4));rw[MK.out];omega
  by_cases Y:t.cap<0
  ·have R:=zoY Y;have l:Hid (zJ t.p o (al.map ActD.p)=1):=by show _=_;rw[d.out];rw[if_neg H.out,if_neg L.out];exact if_pos (by omega)
   clear r;go_enter Tryz.func27,Tryz.ntmps27
   go_wp2;go_ret;exact⟨by rw[l.out];rfl,ze (zof _ _)⟩
  have R:=zoX Y;by_cases cB:16<t.cap
  ·have T:=zoY cB;have l:Hid (zJ t.p o (al.map ActD.p)=1):=by show _=_;rw[d.out];rw[if_neg H.out,if_neg L.out];exact if_pos (by omega)
   clear r;go_enter Tryz.func27,Tryz.ntmps27
   go_wp2;go_ret;exact⟨by rw[l.out];rfl,ze (zof _ _)⟩
  have T:=zoX cB;rw[if_neg H.out,if_neg L.out,if_neg (by omega)]at d
  clear H L;have V:Hid (Below w.heap.size w (w.alloc t.box')):=ze (zof _ _);obtain⟨s,hW⟩:∃s,s=w.alloc t.box':=⟨_,rfl⟩;obtain⟨E,h0⟩:∃E,E=w.heap.size:=⟨_,rfl⟩;have z:∀i,s.cell? ⟨E,i,none⟩=(#[.int .i64 t.kind,.slice t.keys.a t.keys.n t.keys.c,.slice t.acts.a t.acts.n t.acts.c,.int .i64 t.cap,.int .i64 t.dflt,.slice t.args.a t.args.n t.args.c]:Array Value)[i]?:=fun i=>by rw[hW,h0];exact zod _ _ _ _ rfl
  have z0:s.cell? ⟨E,0,none⟩=some (.int .i64 t.kind):=z 0;have z1:s.cell? ⟨E,1,none⟩=some (.slice t.keys.a t.keys.n t.keys.c):=z 1;have z2:s.cell? ⟨E,2,none⟩=some (.slice t.acts.a t.acts.n t.acts.c):=z 2;have z3:s.cell? ⟨E,3,none⟩=some (.int .i64 t.cap):=z 3;have z4:s.cell? ⟨E,4,none⟩=some (.int .i64 t.dflt):=z 4;have z5:s.cell? ⟨E,5,none⟩=some (.slice t.args.a t.args.n t.args.c):=z 5;have F:Hid (Below w.heap.size w s):=by rw[hW];exact ze (zof _ _)
  have EW:=hid hW;have Z:=hid h0;clear hW h0 z V;go_enter Tryz.func27,Tryz.ntmps27
  go_wp2;rw[<-EW.out,<-Z.out];clear EW Z;go_loopw [7] (fun q wr=>∃k:Nat,k<=wq.n/\q=.int .i64 k/\Hid (InC 1 48 o=InC 1 48 (o.drop k))/\Hid (s=wr)) (fun q _=>wq.n-(intOf q).toNat)
  case atStart=>exact⟨0,zon _,rfl,rfl,rfl⟩
  case round=>
   obtain⟨k,hk,rfl,b,B⟩:=hrel;obtain rfl:=B.out;clear B;by_cases U:k<wq.n
   ·obtain⟨g,off,u,S,I,r0⟩:=xQ (HW.out.step F.out) U;obtain rfl:wa=some ⟨g,off,none⟩:=by rw[<-a1.out];exact S
    have O:(k:Int)<(wq.n:Int):=by omega
    have f:=zbo (lo:=1) (hi:=48) I;clear S I;by_cases C:u<1
    ·have f1:=zoY C;have l:Hid (zJ t.p o (al.map ActD.p)=6):=by show _=_;rw[d.out];exact if_pos (by rw[b.out,f,zoX (by omega)];rfl)
     clear f b C;go_wp2;go_ret;exact⟨by rw[l.out];rfl,F.out⟩
    have f1:=zoX C;by_cases G:48<u
    ·have f2:=zoY G;have l:Hid (zJ t.p o (al.map ActD.p)=6):=by show _=_;rw[d.out];exact if_pos (by rw[b.out,f,zoX (by omega)];rfl)
     clear f b C G;go_wp2;go_ret;exact⟨by rw[l.out];rfl,F.out⟩
    ·have f2:=zoX G;have l:Hid (InC 1 48 o=InC 1 48 (o.drop (k+1))):=by show _=_;rw[b.out,f,zoY (by omega)];rfl
     clear f b C G;go_wp2;go_roundw
     case rel=>exact⟨k+1,by omega,by go_num,l,trivial⟩
     case measure=>simp[intOf];omega
   ·have ek:k=wq.n:=by omega
    have O:¬(k:Int)<(wq.n:Int):=by omega
    have m:InC 1 48 o=true:=by rw[b.out,ek,<-a5.out,zoP];rfl
    have D:Hid (zJ t.p o (al.map ActD.p)=if InC 0 ((A.n:Int)-1) t.al=false then 1 else xM (al.map ActD.p) t.al t.dflt t.zs):=by show _=_;rw[d.out,if_neg (by rw[m];decide)]
    clear b ek m d;go_wp2;go_loopw [8] (fun q wr=>∃j:Nat,j<=t.acts.n/\q=.int .i64 j/\Hid (InC 0 ((A.n:Int)-1) t.al=InC 0 ((A.n:Int)-1) (t.al.drop j))/\Hid (s=wr)) (fun q _=>t.acts.n-(intOf q).toNat)
    case atStart=>exact⟨0,zon _,rfl,rfl,rfl⟩
    case round=>
     obtain⟨j,hj,rfl,b,B⟩:=hrel;obtain rfl:=B.out;clear B;by_cases Q:j<t.acts.n
     ·obtain⟨g,off,u,S,I,r0⟩:=xQ (HT.out.step F.out) Q;have M:(j:Int)<(t.acts.n:Int):=by omega
      have f:=zbo (lo:=0) (hi:=(A.n:Int)-1) I;clear I;by_cases C:u<0
      ·have f1:=zoY C;have l:Hid (zJ t.p o (al.map ActD.p)=1):=by show _=_;rw[D.out];exact if_pos (by rw[b.out,f,zoX (by omega)];rfl)
       clear f b C;go_wp2;go_ret;exact⟨by rw[l.out];rfl,F.out⟩
      have f1:=zoX C;by_cases G:(A.n:Int)<=u
      ·have f2:=zoY G;have l:Hid (zJ t.p o (al.map ActD.p)=1):=by show _=_;rw[D.out];exact if_pos (by rw[b.out,f,zoX (by omega)];rfl)
       clear f b C G;go_wp2;go_ret;exact⟨by rw[l.out];rfl,F.out⟩
      ·have f2:=zoX G;have l:Hid (InC 0 ((A.n:Int)-1) t.al=InC 0 ((A.n:Int)-1) (t.al.drop (j+1))):=by show _=_;rw[b.out,f,zoY (by omega)];rfl
       clear f b C G;go_wp2;go_roundw
       case rel=>exact⟨j+1,by omega,by go_num,l,trivial⟩
       case measure=>simp[intOf];omega
     ·have ej:j=t.acts.n:=by omega
      have M:¬(j:Int)<(t.acts.n:Int):=by omega
      have m:InC 0 ((A.n:Int)-1) t.al=true:=by rw[b.out,ej,<-a3.out,zoP];rfl
      have l:Hid (zJ t.p o (al.map ActD.p)=xM (al.map ActD.p) t.al t.dflt t.zs):=by show _=_;rw[D.out,if_neg (by rw[m];decide)]
      have J:=hid (r.out m s F.out);clear b ej m r D;go_wp2_with fail
      refine J.out.mono ?_;rintro e w2 ⟨rfl,K⟩;have HE:=hid (zh F.out K);clear J K F;go_wp2;go_ret;exact⟨by rw[l.out];rfl,HE.out⟩
theorem zf9{α β :Type}{l:List α}{f: α->β}{n:Nat}{x: α}(h:l[n]?=some x)(y: β):(l.map f).getD n y=f x:=by
 rw[zoi,zoy,h];rfl
theorem zcP(w:World)(x y:Int)(b:(Lit.int .i64 x).wf=true)(c:(Lit.int .i64 y).wf=true):Has .i64 (w.alloc (.cells #[.int .i64 x,.int .i64 y] 3)) (some ⟨w.heap.size,0,none⟩) 2 [x,y]:=by
 refine⟨rfl,?_,.inr ⟨w.heap.size,0,rfl,by simp,fun i hi=>?_⟩⟩
 ·intro n a;simp only[zoD,zoA,or_false]at a;rcases a with rfl|rfl
  ·exact b
  ·exact c
 ·rcases(show i=0\/i=1 by omega)with rfl|rfl
  ·simp
  ·simp
theorem zik(d:PlanD)(w:World)(Y:d.lie w)(k:Nat)(hk:k<d.nodes.n)(x:NodeD)(hx:d.ns[k]?=some x):
 Calls Tryz.prog 28 #[d.v,.int .i64 k] w fun e w'=>e=.returned (.int .i64 (yG d.p k x.p))/\Below w.heap.size w w':=by
 have H:∀o,Below w.heap.size w (w.alloc o):=fun o=>ze (zof _ _)
 obtain⟨g,off,x',ea,a0,⟨c0,_⟩,⟨c1,_⟩,⟨c2,_⟩,⟨c3,w3⟩,⟨c4,X⟩,W⟩:=zu Y.ns hk;obtain rfl:x=x':=by rw[hx]at a0;exact zoq a0
 have d2:Hid (d.p.ts.length=d.tabs.n):=by show _=_;simp[PlanD.p,Y.ts.1]
 have c6:Hid (d.p.hs.length=d.heads.n):=by show _=_;simp[PlanD.p,Y.hs.1]
 have a8:Hid (d.p.al.length=d.acts.n):=by show _=_;simp[PlanD.p,Y.al.1]
 have b:Hid (yG d.p k x.p=or2 (xN d.p x.p) (zn ((if x.kind=3\/x.kind=4 then[x.yes,x.no]else[x.yes]).map (zP d.nodes.n k)))):=by
  show yG d.p k x.p=_;unfold yG;rw[show d.p.ns.length=d.nodes.n by simp[PlanD.p,Y.ns.1]]
  rfl
 have T:Hid (∀w',Below w.heap.size w w'->Calls Tryz.prog 70 #[d.v,.slice x.e.a x.e.n x.e.c,.slice none 0 0] w' fun e a2=>e=.returned (.int .i64 (xl d.p x.es []))/\Below w'.heap.size w' a2):=fun w' h=>zeX d x.e x.es none 0 0 [] w' (Y.step h) (W.step PushD.keeps h) (zW _ _)
 have M:Hid (∀w',Calls Tryz.prog 29 #[d.v,.int .i64 x.n] w' fun e a2=>e=.returned (.bool (decide (0<=x.n/\x.n<(d.heads.n:Int))))/\Below w'.heap.size w' a2):=fun w'=>qE d x.n w'
 have d5:(k:Int)<(d.nodes.n:Int):=by omega
 have k0:∀o,(w.alloc o).cell? ⟨g,off+k*5,none⟩=some (.int .i64 x.kind):=fun o=>za c0 (H o)
 have c8:∀o,(w.alloc o).cell? ⟨g,off+k*5+1,none⟩=some (.int .i64 x.n):=fun o=>za c1 (H o)
 have c9:∀o,(w.alloc o).cell? ⟨g,off+k*5+2,none⟩=some (.slice x.e.a x.e.n x.e.c):=fun o=>za c2 (H o)
 have b6:∀o,(w.alloc o).cell? ⟨g,off+k*5+3,none⟩=some (.int .i64 x.yes):=fun o=>za c3 (H o)
 have d1:∀o,(w.alloc o).cell? ⟨g,off+k*5+4,none⟩=some (.int .i64 x.no):=fun o=>za c4 (H o)
 obtain⟨A,hW⟩:∃A,A=(((w.alloc (.cells #[.slice d.heads.a d.heads.n d.heads.c,.slice d.mta.a d.mta.n d.mta.c,.slice d.states.a d.states.n d.states.c,.slice d.acts.a d.acts.n d.acts.c,.slice d.tabs.a d.tabs.n d.tabs.c,.slice (some ⟨g,off,none⟩) d.nodes.n d.nodes.c,.slice d.out.a d.out.n d.out.c] 29)).alloc (.cells #[.int .i64 x.kind,.int .i64 x.n,.slice x.e.a x.e.n x.e.c,.int .i64 x.yes,.int .i64 x.no] 65)).alloc (.cells #[.int .i64 x.yes] 3)):=⟨_,rfl⟩;obtain⟨N,h0⟩:∃N,N=w.heap.size:=⟨_,rfl⟩;obtain⟨b1,h1⟩:∃b1,b1=w.heap.size+1:=⟨_,rfl⟩;obtain⟨b2,h2⟩:∃b2,b2=w.heap.size+1+1:=⟨_,rfl⟩;have z0:A.cell? ⟨N,0,none⟩=some (.slice d.heads.a d.heads.n d.heads.c):=by rw[hW,h0];exact(zoe _ _ _ (by simp;omega)).trans ((zoe _ _ _ (by simp)).trans ((zod _ _ _ _ rfl).trans rfl))
 have z1:A.cell? ⟨N,1,none⟩=some (.slice d.mta.a d.mta.n d.mta.c):=by rw[hW,h0];exact(zoe _ _ _ (by simp;omega)).trans ((zoe _ _ _ (by simp)).trans ((zod _ _ _ _ rfl).trans rfl))
 have z2:A.cell? ⟨N,2,none⟩=some (.slice d.states.a d.states.n d.states.c):=by rw[hW,h0];exact(zoe _ _ _ (by simp;omega)).trans ((zoe _ _ _ (by simp)).trans ((zod _ _ _ _ rfl).trans rfl))
 have z3:A.cell? ⟨N,3,none⟩=some (.slice d.acts.a d.acts.n d.acts.c):=by rw[hW,h0];exact(zoe _ _ _ (by simp;omega)).trans ((zoe _ _ _ (by simp)).trans ((zod _ _ _ _ rfl).trans rfl))
 have z4:A.cell? ⟨N,4,none⟩=some (.slice d.tabs.a d.tabs.n d.tabs.c):=by rw[hW,h0];exact(zoe _ _ _ (by simp;omega)).trans ((zoe _ _ _ (by simp)).trans ((zod _ _ _ _ rfl).trans rfl))
 have z5:A.cell? ⟨N,5,none⟩=some (.slice (some ⟨g,off,none⟩) d.nodes.n d.nodes.c):=by rw[hW,h0];exact(zoe _ _ _ (by simp;omega)).trans ((zoe _ _ _ (by simp)).trans ((zod _ _ _ _ rfl).trans rfl))
 have z6:A.cell? ⟨N,6,none⟩=some (.slice d.out.a d.out.n d.out.c):=by rw[hW,h0];exact(zoe _ _ _ (by simp;omega)).trans ((zoe _ _ _ (by simp)).trans ((zod _ _ _ _ rfl).trans rfl))
 have y0:A.cell? ⟨b1,0,none⟩=some (.int .i64 x.kind):=by rw[hW,h1];exact(zoe _ _ _ (by simp)).trans ((zod _ _ _ _ (by simp)).trans rfl)
 have y1:A.cell? ⟨b1,1,none⟩=some (.int .i64 x.n):=by rw[hW,h1];exact(zoe _ _ _ (by simp)).trans ((zod _ _ _ _ (by simp)).trans rfl)
 have y2:A.cell? ⟨b1,2,none⟩=some (.slice x.e.a x.e.n x.e.c):=by rw[hW,h1];exact(zoe _ _ _ (by simp)).trans ((zod _ _ _ _ (by simp)).trans rfl)
 have y3:A.cell? ⟨b1,3,none⟩=some (.int .i64 x.yes):=by rw[hW,h1];exact(zoe _ _ _ (by simp)).trans ((zod _ _ _ _ (by simp)).trans rfl)
 have y4:A.cell? ⟨b1,4,none⟩=some (.int .i64 x.no):=by rw[hW,h1];exact(zoe _ _ _ (by simp)).trans ((zod _ _ _ _ (by simp)).trans rfl)
 have HB:Hid (Below w.heap.size w A):=by rw[hW];exact ze (ze (ze (zof _ _)))
 have B:Hid (Has .i64 A (some ⟨b2,0,none⟩) 1 [x.yes]):=by show Has _ _ _ _ _;rw[hW,h2];simpa using qi ((w.alloc (.cells #[.slice d.heads.a d.heads.n d.heads.c,.slice d.mta.a d.mta.n d.mta.c,.slice d.states.a d.states.n d.states.c,.slice d.acts.a d.acts.n d.acts.c,.slice d.tabs.a d.tabs.n d.tabs.c,.slice (some ⟨g,off,none⟩) d.nodes.n d.nodes.c,.slice d.out.a d.out.n d.out.c] 29)).alloc (.cells #[.int .i64 x.kind,.int .i64 x.n,.slice x.e.a x.e.n x.e.c,.int .i64 x.yes,.int .i64 x.no] 65)) x.yes w3
 have EW:=hid hW;have E0:=hid h0;have E1:=hid h1;have E2:=hid h2;have c5:=hid Y.al;have Z:=hid w3;have a1:=hid X;unfold PlanD.v at T M;rw[ea]at T M;clear hW h0 h1 h2 Y hx a0 c0 c1 c2 c3 c4 W H w3 X;go_enter Tryz.func28,Tryz.ntmps28
 go_upto_block 0 with fail
 rw[<-EW.out,<-E2.out,<-E1.out,<-E0.out];clear EW E2 E1 E0;go_cut [6,7] (fun e tv wx=>∃(E:Int) (L:List Int) (la:Option Addr) (lc:Nat),e=.int .i64 E/\tv=.slice la L.length lc/\Hid (yG d.p k x.p=or2 E (zn (L.map (zP d.nodes.n k))))/\Hid (L.length<=2)/\Hid (Has .i64 wx la L.length L)/\Hid (Below A.heap.size A wx))
 case first=>
  by_cases I:x.kind=1
  ·have e1:(x.kind==1)=true:=by simpa using I
   rw[if_neg (by omega),show xN d.p x.p=xz d.tabs.n x.n from by unfold xN;rw[if_pos (show x.p.kind=1 from I),d2.out];rfl]at b
   clear T M I;by_cases q1:x.n<0
   ·have f1:=zoY q1;have i:Hid (yG d.p k x.p=or2 1 (zn (([x.yes]:List Int).map (zP d.nodes.n k)))):=by show _=_;rw[b.out,show xz d.tabs.n x.n=1 from if_neg (by omega)]
    go_wp2;go_meet
    exact⟨1,[x.yes],_,_,rfl,rfl,i,(by decide:(1:Nat)<=2),B,zof _ _⟩
   have f1:=zoX q1;by_cases q2:(d.tabs.n:Int)<=x.n
   ·have f2:=zoY q2;have i:Hid (yG d.p k x.p=or2 1 (zn (([x.yes]:List Int).map (zP d.nodes.n k)))):=by show _=_;rw[b.out,show xz d.tabs.n x.n=1 from if_neg (by omega)]
    go_wp2;go_meet
    exact⟨1,[x.yes],_,_,rfl,rfl,i,(by decide:(1:Nat)<=2),B,zof _ _⟩
   ·have f2:=zoX q2;have i:Hid (yG d.p k x.p=or2 0 (zn (([x.yes]:List Int).map (zP d.nodes.n k)))):=by show _=_;rw[b.out,show xz d.tabs.n x.n=0 from if_pos (by omega)]
    go_wp2;go_meet
    exact⟨0,[x.yes],_,_,rfl,rfl,i,(by decide:(1:Nat)<=2),B,zof _ _⟩
  have e1:(x.kind==1)=false:=by simpa using I
  by_cases K:x.kind=2
  ·have e2:(x.kind==2)=true:=by simpa using K
   rw[if_neg (by omega),show xN d.p x.p=doC d.p x.n from by unfold xN;rw[if_neg (show¬x.p.kind=1 from I),if_pos (show x.p.kind=2 from K)];rfl]at b
   clear T M I K;by_cases q1:x.n<0
   ·have f1:=zoY q1;have i:Hid (yG d.p k x.p=or2 1 (zn (([x.yes]:List Int).map (zP d.nodes.n k)))):=by show _=_;rw[b.out,show doC d.p x.n=1 from if_neg (by omega)]
    go_wp2;go_meet
    exact⟨1,[x.yes],_,_,rfl,rfl,i,(by decide:(1:Nat)<=2),B,zof _ _⟩
   have f1:=zoX q1;by_cases q2:(d.acts.n:Int)<=x.n
   ·have f2:=zoY q2;have i:Hid (yG d.p k x.p=or2 1 (zn (([x.yes]:List Int).map (zP d.nodes.n k)))):=by show _=_;rw[b.out,show doC d.p x.n=1 from if_neg (by rw[a8.out];omega)]
    go_wp2;go_meet
    exact⟨1,[x.yes],_,_,rfl,rfl,i,(by decide:(1:Nat)<=2),B,zof _ _⟩
   have f2:=zoX q2;obtain⟨jn,ejn⟩:∃jn:Nat,x.n=jn:=⟨x.n.toNat,by omega⟩
   obtain⟨ag,d4,y,b7,hy,⟨d0,_⟩,_,a3,_⟩:=zu (c5.out.step ActD.keeps HB.out) (show jn<d.acts.n by omega)
   have R:Hid (doC d.p x.n=if 0<y.w.n then 2 else 0):=by
    show doC d.p x.n=_;unfold doC;rw[if_pos (by rw[a8.out];omega),ejn,zov]
    have e:d.p.al.getD jn ⟨[],[]⟩=y.p:=zf9 hy _;rw[e,show y.p.ws.length=y.w.n from a3.1]
   rw[ejn]at y1 f1 f2;have a6:(jn:Int)<(d.acts.n:Int):=by omega
   have d7:¬((jn:Int)<0):=by omega
   rw[b7]at z3;clear hy a3 q1 q2 ejn;by_cases hz:0<y.w.n
   ·have c7:decide ((0:Int)<(y.w.n:Int))=true:=zoY (by omega)
    have i:Hid (yG d.p k x.p=or2 2 (zn (([x.yes]:List Int).map (zP d.nodes.n k)))):=by show _=_;rw[b.out,R.out,if_pos hz]
    clear R;go_wp2;go_meet
    exact⟨2,[x.yes],_,_,rfl,rfl,i,(by decide:(1:Nat)<=2),B,zof _ _⟩
   ·have c7:decide ((0:Int)<(y.w.n:Int))=false:=zoX (by omega)
    have i:Hid (yG d.p k x.p=or2 0 (zn (([x.yes]:List Int).map (zP d.nodes.n k)))):=by show _=_;rw[b.out,R.out,if_neg hz]
    clear R;go_wp2;go_meet
    exact⟨0,[x.yes],_,_,rfl,rfl,i,(by decide:(1:Nat)<=2),B,zof _ _⟩
  have e2:(x.kind==2)=false:=by simpa using K
  by_cases S:x.kind=3
  ·have e3:(x.kind==3)=true:=by simpa using S
   rw[if_pos (.inl S),show xN d.p x.p=xl d.p x.es []from by unfold xN;rw[if_neg (show¬x.p.kind=1 from I),if_neg (show¬x.p.kind=2 from K),if_pos (show x.p.kind=3 from S)];rfl]at b
   clear M I K S;have a5:=hid (T.out A HB.out);generalize xl d.p x.es []=U at*;go_wp2_with fail
   refine a5.out.mono ?_;rintro e X ⟨rfl,r⟩;have v3:=za y3 r;have v4:=za y4 r;have D:=hid r;have J:=hid (zcP X x.yes x.no Z.out a1.out);clear a5 T r;go_wp2;go_meet
   exact⟨U,[x.yes,x.no],_,_,rfl,rfl,b,(by decide:(2:Nat)<=2),J,ze D.out⟩
  have e3:(x.kind==3)=false:=by simpa using S
  by_cases k4:x.kind=4
  ·have e4:(x.kind==4)=true:=by simpa using k4
   rw[if_pos (.inr k4),show xN d.p x.p=xz d.heads.n x.n from by unfold xN;rw[if_neg (show¬x.p.kind=1 from I),if_neg (show¬x.p.kind=2 from K),if_neg (show¬x.p.kind=3 from S),if_pos (show x.p.kind=4 from k4),c6.out];rfl]at b
   clear T I K S k4;have G:=hid (M.out A);by_cases q1:0<=x.n/\x.n<(d.heads.n:Int)
   ·have i:Hid (yG d.p k x.p=or2 0 (zn (([x.yes,x.no]:List Int).map (zP d.nodes.n k)))):=by show _=_;rw[b.out,show xz d.heads.n x.n=0 from if_pos q1]
    rw[zoY q1]at G;clear q1;go_wp2_with fail
    refine G.out.mono ?_;rintro e X ⟨rfl,r⟩;have v3:=za y3 r;have v4:=za y4 r;have D:=hid r;have J:=hid (zcP X x.yes x.no Z.out a1.out);clear G M r;go_wp2;go_meet
    exact⟨0,[x.yes,x.no],_,_,rfl,rfl,i,(by decide:(2:Nat)<=2),J,ze D.out⟩
   ·have i:Hid (yG d.p k x.p=or2 1 (zn (([x.yes,x.no]:List Int).map (zP d.nodes.n k)))):=by show _=_;rw[b.out,show xz d.heads.n x.n=1 from if_neg q1]
    rw[zoX q1]at G;clear q1;go_wp2_with fail
    refine G.out.mono ?_;rintro e X ⟨rfl,r⟩;have v3:=za y3 r;have v4:=za y4 r;have D:=hid r;have J:=hid (zcP X x.yes x.no Z.out a1.out);clear G M r;go_wp2;go_meet
    exact⟨1,[x.yes,x.no],_,_,rfl,rfl,i,(by decide:(2:Nat)<=2),J,ze D.out⟩
  have e4:(x.kind==4)=false:=by simpa using k4
  have i:Hid (yG d.p k x.p=or2 5 (zn (([x.yes]:List Int).map (zP d.nodes.n k)))):=by
   show _=_;rw[b.out,if_neg (by omega),show xN d.p x.p=5 from by unfold xN;rw[if_neg (show¬x.p.kind=1 from I),if_neg (show¬x.p.kind=2 from K),if_neg (show¬x.p.kind=3 from S),if_neg (show¬x.p.kind=4 from k4)]]
  clear T M I K S k4;go_wp2;go_meet
  exact⟨5,[x.yes],_,_,rfl,rfl,i,(by decide:(1:Nat)<=2),B,zof _ _⟩
 case rest=>
  obtain⟨a4,L,la,lc,rfl,rfl,b4,b5,a7,D⟩:=hcut;have b8:=hid HB.out;clear b B T M y0 y1 y2 y3 y4 k0 c8 c9 b6 d1 z0 z1 z2 z3 z4 z6;have a9:Hid (yG d.p k x.p=if a4≠0 then a4 else zn ((L.drop 0).map (zP d.nodes.n k))):=b4
  obtain⟨m,em⟩:∃m,m=L.length:=⟨_,rfl⟩;have HM:=hid em;have d6:m<=2:=by rw[em];exact b5.out
  rw[<-em]at a7 ⊢;have b3:Hid (Below wc.heap.size wc wc):=zof _ _;have z5:=za z5 D.out;clear em b4;go_wp2;go_loopw [8,6] (fun q e wr=>∃(j:Nat) (E:Int),j<=m/\q=.int .i64 j/\e=.int .i64 E/\Hid (yG d.p k x.p=if E≠0 then E else zn ((L.drop j).map (zP d.nodes.n k)))/\Hid (Below wc.heap.size wc wr)) (fun q _ _=>m-(intOf q).toNat)
  case atStart=>exact⟨0,_,zon _,rfl,rfl,a9,b3⟩
  case round=>
   obtain⟨j,E,hj,rfl,rfl,s,u⟩:=hrel;clear b3 a9;have BW:=hid (zh (zh b8.out D.out) u.out);have z5:=za z5 u.out;by_cases b9:j<m
   ·have a6:(j:Int)<(m:Int):=by omega
    by_cases hE:E=0
    ·subst hE;obtain⟨wg,d3,y,rfl,hy,Q⟩:=xQ (a7.out.step u.out) b9;have C:=xU (f:=zP d.nodes.n k) hy;have V:=zm Q;have O:=zm z5;clear hy;rw[if_neg (by simp)]at s
     by_cases g1:y<0
     ·have f1:=zoY g1;have i:Hid (yG d.p k x.p=if(1:Int)≠0 then(1:Int)else zn ((L.drop (j+1)).map (zP d.nodes.n k))):=by show _=_;rw[s.out,C];rw[show zP d.nodes.n k y=1 from if_pos (.inl g1)]
      clear C s;go_wp2_with fail
      haveI inhB:∀w:World,Inhabited (zq w):=fun w=>⟨⟨w,zof _ _⟩⟩
      refine zi (by kernel_rfl) (by kernel_rfl) ?_
      repeat (go_big_quiet_step (fail))
      refine wpQuiet_nil ?_;intro wq F;obtain⟨⟨_,l⟩,t⟩:=F;subst t;have HE:=hid (zh u.out l);have Q:=za Q l;clear l u BW V O;go_wp2;go_roundw
      case rel=>exact⟨j+1,1,by omega,by go_num,rfl,i,HE⟩
      case measure=>simp[intOf];omega
     have f1:=zoX g1;by_cases g2:(d.nodes.n:Int)<y
     ·have f2:=zoY g2;have i:Hid (yG d.p k x.p=if(1:Int)≠0 then(1:Int)else zn ((L.drop (j+1)).map (zP d.nodes.n k))):=by show _=_;rw[s.out,C];rw[show zP d.nodes.n k y=1 from if_pos (.inr g2)]
      clear C s;go_wp2_with fail
      haveI inhB:∀w:World,Inhabited (zq w):=fun w=>⟨⟨w,zof _ _⟩⟩
      refine zi (by kernel_rfl) (by kernel_rfl) ?_
      repeat (go_big_quiet_step (fail))
      refine wpQuiet_nil ?_;intro wq F;obtain⟨⟨_,l⟩,t⟩:=F;subst t;have HE:=hid (zh u.out l);have Q:=za Q l;clear l u BW V O;go_wp2;go_roundw
      case rel=>exact⟨j+1,1,by omega,by go_num,rfl,i,HE⟩
      case measure=>simp[intOf];omega
     have f2:=zoX g2;have P:¬(y<0\/(d.nodes.n:Int)<y):=by omega
     by_cases g3:y<=(k:Int)
     ·have f3:=zoY g3;have i:Hid (yG d.p k x.p=if(11:Int)≠0 then(11:Int)else zn ((L.drop (j+1)).map (zP d.nodes.n k))):=by show _=_;rw[s.out,C];rw[show zP d.nodes.n k y=11 from by unfold zP;rw[if_neg P,if_pos g3]]
      clear C s P;go_wp2_with fail
      haveI inhB:∀w:World,Inhabited (zq w):=fun w=>⟨⟨w,zof _ _⟩⟩
      refine zi (by kernel_rfl) (by kernel_rfl) ?_
      repeat (go_big_quiet_step (fail))
      refine wpQuiet_nil ?_;intro wq F;obtain⟨⟨_,l⟩,t⟩:=F;subst t;have HE:=hid (zh u.out l);have Q:=za Q l;clear l u BW V O;go_wp2;go_roundw
      case rel=>exact⟨j+1,11,by omega,by go_num,rfl,i,HE⟩
      case measure=>simp[intOf];omega
     ·have f3:=zoX g3;have i:Hid (yG d.p k x.p=if(0:Int)≠0 then(0:Int)else zn ((L.drop (j+1)).map (zP d.nodes.n k))):=by show _=_;rw[s.out,C];rw[show zP d.nodes.n k y=0 from by unfold zP;rw[if_neg P,if_neg g3]]
      clear C s P;go_wp2_with fail
      haveI inhB:∀w:World,Inhabited (zq w):=fun w=>⟨⟨w,zof _ _⟩⟩
      refine zi (by kernel_rfl) (by kernel_rfl) ?_
      repeat (go_big_quiet_step (fail))
      refine wpQuiet_nil ?_;intro wq F;obtain⟨⟨_,l⟩,t⟩:=F;subst t;have HE:=hid (zh u.out l);have Q:=za Q l;clear l u BW V O;go_wp2;go_roundw
      case rel=>exact⟨j+1,0,by omega,by go_num,rfl,i,HE⟩
      case measure=>simp[intOf];omega
    ·have bE:(E==0)=false:=by simpa using hE
     have i:Hid (yG d.p k x.p=E):=by show _=_;rw[s.out,if_pos hE]
     clear s hE;go_wp2;go_ret;exact⟨by rw[i.out];rfl,BW.out⟩
   ·have a6:¬(j:Int)<(m:Int):=by omega
    have ej:j=m:=by omega
    have i:Hid (yG d.p k x.p=E):=by
     show _=_;rw[s.out,ej,HM.out,zoP];by_cases h:E≠0
     ·rw[if_pos h]
     ·rw[if_neg h];show(0:Int)=E;omega
    clear s ej;go_wp2;go_ret;exact⟨by rw[i.out];rfl,BW.out⟩
end Go.Proofs.YtbmcgbmegcpgnaaGreat
