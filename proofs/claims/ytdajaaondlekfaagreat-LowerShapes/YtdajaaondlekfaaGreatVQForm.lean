import Derived.Test.YtdajaaondlekfaaGreatG18
import Derived.Test.YtdajaaondlekfaaGreatG22
set_option maxHeartbeats 64000000
set_option maxRecDepth 20000
set_option linter.unusedSimpArgs false
namespace Go.Proofs.YtdajaaondlekfaaGreat
open Go.RowKit
theorem ju{d:PlanD}{cs:Nat->Nat->Int}{k n:Nat}{C A:Int}(b:k<7)(g:∀j,j<k->yE d cs j)(h:¬((zM d k:Int)<zS k\/yh k<(zM d k:Int)))(e:n<zM d k)(a:∀j,j<n->cs k j=0)(c:cs k n=C)(h0:C≠0)(f:A=1000*((k:Int)+1)+n):jG d cs C A:=by
 rw[f];exact znJ b g h e a c h0
theorem zj8(d:PlanD)(w:World)(hl:d.lie w)(hm:d.p.little):Calls Tryz.prog 28 #[d.v] w (zI d (zO d.p) w):=by
 obtain⟨D,hW⟩:∃D,D=(w.alloc d.box).alloc FZ:=⟨_,rfl⟩;obtain⟨b0,h0⟩:∃b0,b0=w.heap.size:=⟨_,rfl⟩;obtain⟨X,h1⟩:∃X,X=w.heap.size+1:=⟨_,rfl⟩;have h3:D.heap.size=w.heap.size+2:=by rw[hW];simp
 have zc:D.cell? ⟨b0,0,none⟩=some (.slice d.heads.a d.heads.n d.heads.c)/\D.cell? ⟨b0,1,none⟩=some (.slice d.mta.a d.mta.n d.mta.c)/\D.cell? ⟨b0,2,none⟩=some (.slice d.states.a d.states.n d.states.c)/\D.cell? ⟨b0,3,none⟩=some (.slice d.acts.a d.acts.n d.acts.c)/\D.cell? ⟨b0,4,none⟩=some (.slice d.tabs.a d.tabs.n d.tabs.c)/\D.cell? ⟨b0,5,none⟩=some (.slice d.nodes.a d.nodes.n d.nodes.c)/\D.cell? ⟨b0,6,none⟩=some (.slice d.out.a d.out.n d.out.c):=by rw[hW,h0];refine⟨?_,?_,?_,?_,?_,?_,?_⟩<;>exact(zoe _ _ _ (by simp)).trans ((zod _ _ _ _ rfl).trans rfl)
 have HB:Hid (Below w.heap.size w D):=by rw[hW];exact ze (ze (zof _ _))
 have A:Hid (∀w',Below D.heap.size D w'->w'.cell? ⟨X,0,none⟩=some (.int .i64 0)/\w'.cell? ⟨X,1,none⟩=some (.int .i64 0)/\w'.frozen? ⟨X,0,none⟩=false/\w'.frozen? ⟨X,1,none⟩=false/\X<w'.heap.size):=fun w' h=>by
  have hb:X<D.heap.size:=by rw[h3,h1];omega
  have H:∀i v,(#[.int .i64 0,.int .i64 0]:Array Value)[i]?=some v->w'.cell? ⟨X,i,none⟩=some v:=fun i v hv=>za (by rw[hW,h1];exact(zod _ _ _ _ (by simp)).trans hv) h
  have hf:∀i,w'.frozen? ⟨X,i,none⟩=false:=fun i=>(h.frozen (p:=⟨X,i,none⟩) hb).trans (by rw[hW,h1];exact zoB _ _ _ _ (by simp))
  exact⟨H 0 _ rfl,H 1 _ rfl,hf 0,hf 1,zom hb h.size⟩
 have t:Hid (∀w' x y,Below D.heap.size D w'->Below w.heap.size w ((w'.setCell ⟨X,0,none⟩ x).setCell ⟨X,1,none⟩ y)):=fun w' x y h=>(zoV (zoV (zh HB.out h) (by show w.heap.size<=X;omega) _) (by show w.heap.size<=X;omega) _)
 have EW:=hid hW;have E0:=hid h0;have E1:=hid h1;have s:=hid zc;have S:=hid hl;have HM:=hid hm;have f0:=hid (zbk hl hm);have e7:=hid (zof D.heap.size D);obtain⟨z0,z1,z2,z3,z4,z5,z6⟩:=zc;have P0:Hid (∀j,j<0->yE d (zO d.p) j):=fun j L=>absurd L (zoN _)
 have i2:d.heads.n<=50:=by have:=hm.hs;simp[PlanD.p,hl.hs.1]at this;exact this
 have i5:d.mta.n<=500:=by have:=hm.ms;simp[PlanD.p,hl.ms.1]at this;exact this
 have i8:d.states.n<=50:=by have:=hm.ss;simp[PlanD.p,hl.ss.1]at this;exact this
 have i6:d.acts.n<=50:=by have:=hm.al;simp[PlanD.p,hl.al.1]at this;exact this
 have i4:d.tabs.n<=50:=by have:=hm.ts;simp[PlanD.p,hl.ts.1]at this;exact this
 have i9:d.nodes.n<=50:=by have:=hm.ns;simp[PlanD.p,hl.ns.1]at this;exact this
 have i1:d.out.n<=500:=by have:=hm.os;simp[PlanD.p,hl.os.1]at this;exact this
 clear hW h0 h1 hl hm h3;by_cases b5:(6:Int)<(d.heads.n:Int)
 ·have g:=zoY b5;have B:Hid (∀w',Below w.heap.size w w'->zI d (zO d.p) w (.returned (.agg #[.int .i64 (2),.int .i64 (-1)])) w'):=fun w' h=>⟨_,_,jH (k:=0) (by decide) P0.out (.inr b5),rfl,h⟩
  go_enter Tryz.func28,Tryz.ntmps28
  go_wp2_with fail
  rw[<-EW.out,<-E1.out,<-E0.out];refine(zA _ _ _).mono ?_;rintro e m ⟨rfl,b⟩;obtain⟨t0,t1,r0,r1,C⟩:=A.out m (zh e7.out b);have f:=hid (t.out m (.int .i64 (2)) (.int .i64 (-1)) (zh e7.out b));clear b;go_wp2;exact bodyPost_ret (v:=.agg #[.int .i64 (2),.int .i64 (-1)]) (by simp[results,Tryz.results28,go_sem, *]) rfl (B.out _ f.out)
 have g0:=zoX b5;have f8:Hid (¬((zM d 0:Int)<zS 0\/yh 0<(zM d 0:Int))):=fun h=>h.elim (fun h=>absurd h (by show¬(d.heads.n:Int)<0;omega)) b5
 go_enter Tryz.func28,Tryz.ntmps28
 go_wp2;rw[<-EW.out,<-E1.out,<-E0.out];clear EW E0 E1;go_loopw [3,4,5] (fun q _ _ wr=>∃i:Nat,i<=d.heads.n/\q=.int .i64 i/\Hid (∀j,j<i->zO d.p 0 j=0)/\Hid (Below D.heap.size D wr)) (fun q _ _ _=>d.heads.n-(intOf q).toNat)
 case atStart=>exact⟨0,zon _,rfl,fun j L=>absurd L (zoN _),e7⟩
 case round=>
  obtain⟨i,hi,rfl,e0,Y⟩:=hrel;have z0:=za s.out.1 Y.out;by_cases o:i<d.heads.n
  ·have O:(i:Int)<(d.heads.n:Int):=by omega
   obtain⟨g,off,x,U,T,W⟩:=zu (S.out.hs.step HeadD.keeps (zh HB.out Y.out)) o;obtain⟨a0,ea0⟩:∃a,d.heads.a=a:=⟨_,rfl⟩;rw[ea0]at z0;obtain rfl:a0=some ⟨g,off,none⟩:=by rw[<-ea0];exact U
   have c0:=Eq.mp (by rw[Nat.mul_one]) W.1.1
   have f4:=hid (zfY x.w.a x.w.n x.w.c x.ws wr W.2);have l:Hid (zO d.p 0 i=yJ x.ws):=by
    show yJ (d.p.hs.getD i [])=_;rw[show d.p.hs.getD i []=x.ws from yY T _]
   generalize yJ x.ws=CC at*;clear U ea0 T W;go_wp2_with fail
   refine f4.out.mono ?_;rintro e w3 ⟨xx,yy,rfl,E⟩;have HC:Hid (Below D.heap.size D (w3.alloc (.cells #[.int .i64 CC,.int .i64 yy] 34))):=ze (zh Y.out E);clear E f4;by_cases H:CC=0
   ·have R:(CC !=0)=false:=by simpa using H
    have HN:=hid (kC e0.out (by rw[l.out];exact H))
    clear H;go_wp2;go_roundw
    case rel=>exact⟨i+1,by omega,by go_num,HN,HC⟩
    case measure=>simp[intOf];omega
   ·have R:(CC !=0)=true:=by simpa using H
    have B:Hid (∀w',Below w.heap.size w w'->zI d (zO d.p) w (.returned (.agg #[.int .i64 (CC),.int .i64 (1000+(i:Int))])) w'):=fun w' h=>⟨_,_,ju (k:=0) (n:=i) (by decide) P0.out f8.out o e0.out l.out H (by omega),rfl,h⟩
    go_wp2_with fail
    refine(zA _ _ _).mono ?_;rintro e m ⟨rfl,b⟩;obtain⟨t0,t1,r0,r1,C⟩:=A.out m (zh HC.out b);have f:=hid (t.out m (.int .i64 (CC)) (.int .i64 (1000+(i:Int))) (zh HC.out b));clear b;go_wp2;exact bodyPost_ret (v:=.agg #[.int .i64 (CC),.int .i64 (1000+(i:Int))]) (by simp[results,Tryz.results28,go_sem, *]) rfl (B.out _ f.out)
  ·have O:¬(i:Int)<(d.heads.n:Int):=by omega
   have P1:Hid (∀j,j<1->yE d (zO d.p) j):=qy (k:=0) P0.out f8.out (fun j L=>e0.out j (by have a6:j<d.heads.n:=L;omega))
   clear e0;have z1:=za s.out.2.1 Y.out;by_cases d5:(4:Int)<(d.mta.n:Int)
   ·have g:=zoY d5;have B:Hid (∀w',Below w.heap.size w w'->zI d (zO d.p) w (.returned (.agg #[.int .i64 (2),.int .i64 (-2)])) w'):=fun w' h=>⟨_,_,jH (k:=1) (by decide) P1.out (.inr d5),rfl,h⟩
    go_wp2_with fail
    refine(zA _ _ _).mono ?_;rintro e m ⟨rfl,b⟩;obtain⟨t0,t1,r0,r1,C⟩:=A.out m (zh Y.out b);have f:=hid (t.out m (.int .i64 (2)) (.int .i64 (-2)) (zh Y.out b));clear b;go_wp2;exact bodyPost_ret (v:=.agg #[.int .i64 (2),.int .i64 (-2)]) (by simp[results,Tryz.results28,go_sem, *]) rfl (B.out _ f.out)
   have g1:=zoX d5;have e9:Hid (¬((zM d 1:Int)<zS 1\/yh 1<(zM d 1:Int))):=fun h=>h.elim (fun h=>absurd h (by show¬(d.mta.n:Int)<0;omega)) d5
   go_wp2;go_loopw [6] (fun q wr=>∃i:Nat,i<=d.mta.n/\q=.int .i64 i/\Hid (∀j,j<i->zO d.p 1 j=0)/\Hid (Below D.heap.size D wr)) (fun q _=>d.mta.n-(intOf q).toNat)
   case atStart=>exact⟨0,zon _,rfl,fun j L=>absurd L (zoN _),Y⟩
   case round=>
    obtain⟨i,hi,rfl,b3,P⟩:=hrel;have z1:=za s.out.2.1 P.out;by_cases o:i<d.mta.n
    ·have O:(i:Int)<(d.mta.n:Int):=by omega
     obtain⟨g,off,u,U,hu,r0⟩:=xQ (S.out.ms.step (zh HB.out P.out)) o;obtain⟨a0,ea0⟩:∃a,d.mta.a=a:=⟨_,rfl⟩;rw[ea0]at z1;obtain rfl:a0=some ⟨g,off,none⟩:=by rw[<-ea0];exact U
     have l:Hid (zO d.p 1 i=xC u):=by
      show xC (d.p.ms.getD i 0)=_;rw[show d.p.ms.getD i 0=u from by rw[zoi];show d.ms[i]?.getD 0=u;rw[hu];rfl]
     clear U ea0 hu;by_cases q1:u<1
     ·have f1:=zoY q1;have B:Hid (∀w',Below w.heap.size w w'->zI d (zO d.p) w (.returned (.agg #[.int .i64 (6),.int .i64 (2000+(i:Int))])) w'):=fun w' h=>⟨_,_,ju (k:=1) (n:=i) (by decide) P1.out e9.out o b3.out (by rw[l.out];exact if_pos (.inl q1)) (by decide) (by omega),rfl,h⟩
      go_wp2_with fail
      refine(zA _ _ _).mono ?_;rintro e m ⟨rfl,b⟩;obtain⟨t0,t1,r0,r1,C⟩:=A.out m (zh P.out b);have f:=hid (t.out m (.int .i64 (6)) (.int .i64 (2000+(i:Int))) (zh P.out b));clear b;go_wp2;exact bodyPost_ret (v:=.agg #[.int .i64 (6),.int .i64 (2000+(i:Int))]) (by simp[results,Tryz.results28,go_sem, *]) rfl (B.out _ f.out)
     have f1:=zoX q1;by_cases q2:48<u
     ·have f2:=zoY q2;have B:Hid (∀w',Below w.heap.size w w'->zI d (zO d.p) w (.returned (.agg #[.int .i64 (6),.int .i64 (2000+(i:Int))])) w'):=fun w' h=>⟨_,_,ju (k:=1) (n:=i) (by decide) P1.out e9.out o b3.out (by rw[l.out];exact if_pos (.inr q2)) (by decide) (by omega),rfl,h⟩
      go_wp2_with fail
      refine(zA _ _ _).mono ?_;rintro e m ⟨rfl,b⟩;obtain⟨t0,t1,r0,r1,C⟩:=A.out m (zh P.out b);have f:=hid (t.out m (.int .i64 (6)) (.int .i64 (2000+(i:Int))) (zh P.out b));clear b;go_wp2;exact bodyPost_ret (v:=.agg #[.int .i64 (6),.int .i64 (2000+(i:Int))]) (by simp[results,Tryz.results28,go_sem, *]) rfl (B.out _ f.out)
     ·have f2:=zoX q2;have HN:=hid (kC b3.out (by rw[l.out];exact if_neg (by omega)))
      have HC:=P;go_wp2;go_roundw
      case rel=>exact⟨i+1,by omega,by go_num,HN,HC⟩
      case measure=>simp[intOf];omega
    ·have O:¬(i:Int)<(d.mta.n:Int):=by omega
     have P2:Hid (∀j,j<2->yE d (zO d.p) j):=qy (k:=1) P1.out e9.out (fun j L=>b3.out j (by have a6:j<d.mta.n:=L;omega))
     clear b3;have z2:=za s.out.2.2.1 P.out;by_cases d3:(d.states.n:Int)<1
     ·have g:=zoY d3;have B:Hid (∀w',Below w.heap.size w w'->zI d (zO d.p) w (.returned (.agg #[.int .i64 (2),.int .i64 (-3)])) w'):=fun w' h=>⟨_,_,jH (k:=2) (by decide) P2.out (.inl d3),rfl,h⟩
      go_wp2_with fail
      refine(zA _ _ _).mono ?_;rintro e m ⟨rfl,b⟩;obtain⟨t0,t1,r0,r1,C⟩:=A.out m (zh P.out b);have f:=hid (t.out m (.int .i64 (2)) (.int .i64 (-3)) (zh P.out b));clear b;go_wp2;exact bodyPost_ret (v:=.agg #[.int .i64 (2),.int .i64 (-3)]) (by simp[results,Tryz.results28,go_sem, *]) rfl (B.out _ f.out)
     have i7:=zoX d3;by_cases b7:(8:Int)<(d.states.n:Int)
     ·have g:=zoY b7;have B:Hid (∀w',Below w.heap.size w w'->zI d (zO d.p) w (.returned (.agg #[.int .i64 (2),.int .i64 (-3)])) w'):=fun w' h=>⟨_,_,jH (k:=2) (by decide) P2.out (.inr b7),rfl,h⟩
      go_wp2_with fail
      refine(zA _ _ _).mono ?_;rintro e m ⟨rfl,b⟩;obtain⟨t0,t1,r0,r1,C⟩:=A.out m (zh P.out b);have f:=hid (t.out m (.int .i64 (2)) (.int .i64 (-3)) (zh P.out b));clear b;go_wp2;exact bodyPost_ret (v:=.agg #[.int .i64 (2),.int .i64 (-3)]) (by simp[results,Tryz.results28,go_sem, *]) rfl (B.out _ f.out)
     have g2:=zoX b7;have g7:Hid (¬((zM d 2:Int)<zS 2\/yh 2<(zM d 2:Int))):=fun h=>h.elim d3 b7
     go_wp2;go_loopw [7,8] (fun q _ wr=>∃i:Nat,i<=d.states.n/\q=.int .i64 i/\Hid (∀j,j<i->zO d.p 2 j=0)/\Hid (Below D.heap.size D wr)) (fun q _ _=>d.states.n-(intOf q).toNat)
     case atStart=>exact⟨0,zon _,rfl,fun j L=>absurd L (zoN _),P⟩
     case round=>
      obtain⟨i,hi,rfl,d4,K⟩:=hrel;have z2:=za s.out.2.2.1 K.out;by_cases o:i<d.states.n
      ·have O:(i:Int)<(d.states.n:Int):=by omega
       have y0:=za s.out.1 K.out;have y1:=za s.out.2.1 K.out;have y2:=za s.out.2.2.1 K.out;have y3:=za s.out.2.2.2.1 K.out;have y4:=za s.out.2.2.2.2.1 K.out;have y5:=za s.out.2.2.2.2.2.1 K.out;have y6:=za s.out.2.2.2.2.2.2 K.out;obtain⟨g,off,x,U,T,W⟩:=zu (S.out.ss.step StateD.keeps (zh HB.out K.out)) o;have a8:=S.out.step (zh HB.out K.out);have a7:=hid (zf8 d wr a8 (zeQ S.out P2.out) i o x T);have l:Hid (zO d.p 2 i=yu d.p i x.p):=by
        show yu d.p i (d.p.ss.getD i PState.z)=_;rw[show d.p.ss.getD i PState.z=x.p from yY T _]
       generalize yu d.p i x.p=CC at*;clear U T W a8;go_wp2_with fail
       refine a7.out.mono ?_;rintro e w3 ⟨rfl,E⟩;have HC:=hid (zh K.out E);clear E a7;by_cases H:CC=0
       ·have R:(CC !=0)=false:=by simpa using H
        have HN:=hid (kC d4.out (by rw[l.out];exact H))
        clear H;go_wp2;go_roundw
        case rel=>exact⟨i+1,by omega,by go_num,HN,HC⟩
        case measure=>simp[intOf];omega
       ·have R:(CC !=0)=true:=by simpa using H
        have B:Hid (∀w',Below w.heap.size w w'->zI d (zO d.p) w (.returned (.agg #[.int .i64 (CC),.int .i64 (3000+(i:Int))])) w'):=fun w' h=>⟨_,_,ju (k:=2) (n:=i) (by decide) P2.out g7.out o d4.out l.out H (by omega),rfl,h⟩
        go_wp2_with fail
        refine(zA _ _ _).mono ?_;rintro e m ⟨rfl,b⟩;obtain⟨t0,t1,r0,r1,C⟩:=A.out m (zh HC.out b);have f:=hid (t.out m (.int .i64 (CC)) (.int .i64 (3000+(i:Int))) (zh HC.out b));clear b;go_wp2;exact bodyPost_ret (v:=.agg #[.int .i64 (CC),.int .i64 (3000+(i:Int))]) (by simp[results,Tryz.results28,go_sem, *]) rfl (B.out _ f.out)
      ·have O:¬(i:Int)<(d.states.n:Int):=by omega
       have P3:Hid (∀j,j<3->yE d (zO d.p) j):=qy (k:=2) P2.out g7.out (fun j L=>d4.out j (by have a6:j<d.states.n:=L;omega))
       clear d4;have z3:=za s.out.2.2.2.1 K.out;by_cases e1:(8:Int)<(d.acts.n:Int)
       ·have g:=zoY e1;have B:Hid (∀w',Below w.heap.size w w'->zI d (zO d.p) w (.returned (.agg #[.int .i64 (2),.int .i64 (-4)])) w'):=fun w' h=>⟨_,_,jH (k:=3) (by decide) P3.out (.inr e1),rfl,h⟩
        go_wp2_with fail
        refine(zA _ _ _).mono ?_;rintro e m ⟨rfl,b⟩;obtain⟨t0,t1,r0,r1,C⟩:=A.out m (zh K.out b);have f:=hid (t.out m (.int .i64 (2)) (.int .i64 (-4)) (zh K.out b));clear b;go_wp2;exact bodyPost_ret (v:=.agg #[.int .i64 (2),.int .i64 (-4)]) (by simp[results,Tryz.results28,go_sem, *]) rfl (B.out _ f.out)
       have g3:=zoX e1;have f7:Hid (¬((zM d 3:Int)<zS 3\/yh 3<(zM d 3:Int))):=fun h=>h.elim (fun h=>absurd h (by show¬(d.acts.n:Int)<0;omega)) e1
       go_wp2;go_loopw [9,10] (fun q _ wr=>∃i:Nat,i<=d.acts.n/\q=.int .i64 i/\Hid (∀j,j<i->zO d.p 3 j=0)/\Hid (Below D.heap.size D wr)) (fun q _ _=>d.acts.n-(intOf q).toNat)
       case atStart=>exact⟨0,zon _,rfl,fun j L=>absurd L (zoN _),K⟩
       case round=>
        obtain⟨i,hi,rfl,d9,J⟩:=hrel;have z3:=za s.out.2.2.2.1 J.out;by_cases o:i<d.acts.n
        ·have O:(i:Int)<(d.acts.n:Int):=by omega
         have y0:=za s.out.1 J.out;have y1:=za s.out.2.1 J.out;have y2:=za s.out.2.2.1 J.out;have y3:=za s.out.2.2.2.1 J.out;have y4:=za s.out.2.2.2.2.1 J.out;have y5:=za s.out.2.2.2.2.2.1 J.out;have y6:=za s.out.2.2.2.2.2.2 J.out;obtain⟨g,off,x,U,T,W⟩:=zu (S.out.al.step ActD.keeps (zh HB.out J.out)) o;have a1:Hid (∀p:zq wr,Calls Tryz.prog 59 #[d.v,.agg #[.slice x.w.a x.w.n x.w.c,.slice x.ops.a x.ops.n x.ops.c]] p.to fun e w'=>e=.returned (.int .i64 (ki d.p x.p))/\Below p.to.heap.size p.to w'):=fun p=>zko d x p.to (S.out.step (zh (zh HB.out J.out) p.h)) (W.2.2.1.step p.h) (W.2.2.2.step OpD.keeps p.h) (fun r=>(zeQ S.out (fun j L=>P3.out j (by omega)) r).1)
         have l:Hid (zO d.p 3 i=ki d.p x.p):=by
          show ki d.p (d.p.al.getD i PAct.z)=_;rw[show d.p.al.getD i PAct.z=x.p from yY T _]
         have c0:=zm W.1.1;have c1:=zm W.2.1.1;unfold PlanD.v at a1;rw[U]at a1 y3 z3;have b6:=zm y0;have e2:=zm y1;have c9:=zm y2;have d6:=zm y3;have d1:=zm y4;have c8:=zm y5;have b2:=zm y6;generalize ki d.p x.p=CC at*;clear U T W;go_wp2_with fail
         haveI inhB:∀w:World,Inhabited (zq w):=fun w=>⟨⟨w,zof _ _⟩⟩
         refine zi (by kernel_rfl) (by kernel_rfl) ?_
         repeat (go_big_quiet_step (first|(go_at_call 59;exact zT _ (a1.out _))))
         refine wpQuiet_nil ?_;intro wq Q;obtain⟨⟨_,G⟩,M⟩:=Q;subst M;have HC:=hid (zh J.out G);clear G a1 c0 c1 b6 e2 c9 d6 d1 c8 b2;by_cases H:CC=0
         ·have R:(CC !=0)=false:=by simpa using H
          have HN:=hid (kC d9.out (by rw[l.out];exact H))
          clear H;go_wp2;go_roundw
          case rel=>exact⟨i+1,by omega,by go_num,HN,HC⟩
          case measure=>simp[intOf];omega
         ·have R:(CC !=0)=true:=by simpa using H
          have B:Hid (∀w',Below w.heap.size w w'->zI d (zO d.p) w (.returned (.agg #[.int .i64 (CC),.int .i64 (4000+(i:Int))])) w'):=fun w' h=>⟨_,_,ju (k:=3) (n:=i) (by decide) P3.out f7.out o d9.out l.out H (by omega),rfl,h⟩
          go_wp2_with fail
          refine(zA _ _ _).mono ?_;rintro e m ⟨rfl,b⟩;obtain⟨t0,t1,r0,r1,C⟩:=A.out m (zh HC.out b);have f:=hid (t.out m (.int .i64 (CC)) (.int .i64 (4000+(i:Int))) (zh HC.out b));clear b;go_wp2;exact bodyPost_ret (v:=.agg #[.int .i64 (CC),.int .i64 (4000+(i:Int))]) (by simp[results,Tryz.results28,go_sem, *]) rfl (B.out _ f.out)
        ·have O:¬(i:Int)<(d.acts.n:Int):=by omega
         have P4:Hid (∀j,j<4->yE d (zO d.p) j):=qy (k:=3) P3.out f7.out (fun j L=>d9.out j (by have a6:j<d.acts.n:=L;omega))
         clear d9;have z4:=za s.out.2.2.2.2.1 J.out;by_cases b8:(5:Int)<(d.tabs.n:Int)
         ·have g:=zoY b8;have B:Hid (∀w',Below w.heap.size w w'->zI d (zO d.p) w (.returned (.agg #[.int .i64 (2),.int .i64 (-5)])) w'):=fun w' h=>⟨_,_,jH (k:=4) (by decide) P4.out (.inr b8),rfl,h⟩
          go_wp2_with fail
          refine(zA _ _ _).mono ?_;rintro e m ⟨rfl,b⟩;obtain⟨t0,t1,r0,r1,C⟩:=A.out m (zh J.out b);have f:=hid (t.out m (.int .i64 (2)) (.int .i64 (-5)) (zh J.out b));clear b;go_wp2;exact bodyPost_ret (v:=.agg #[.int .i64 (2),.int .i64 (-5)]) (by simp[results,Tryz.results28,go_sem, *]) rfl (B.out _ f.out)
         have g4:=zoX b8;have b9:Hid (¬((zM d 4:Int)<zS 4\/yh 4<(zM d 4:Int))):=fun h=>h.elim (fun h=>absurd h (by show¬(d.tabs.n:Int)<0;omega)) b8
         go_wp2;go_loopw [11,12,13,14] (fun q _ _ _ wr=>∃i:Nat,i<=d.tabs.n/\q=.int .i64 i/\Hid (∀j,j<i->zO d.p 4 j=0)/\Hid (Below D.heap.size D wr)) (fun q _ _ _ _=>d.tabs.n-(intOf q).toNat)
         case atStart=>exact⟨0,zon _,rfl,fun j L=>absurd L (zoN _),J⟩
         case round=>
          obtain⟨i,hi,rfl,a4,F⟩:=hrel;have z4:=za s.out.2.2.2.2.1 F.out;by_cases o:i<d.tabs.n
          ·have O:(i:Int)<(d.tabs.n:Int):=by omega
           have y0:=za s.out.1 F.out;have y1:=za s.out.2.1 F.out;have y2:=za s.out.2.2.1 F.out;have y3:=za s.out.2.2.2.1 F.out;have y4:=za s.out.2.2.2.2.1 F.out;have y5:=za s.out.2.2.2.2.2.1 F.out;have y6:=za s.out.2.2.2.2.2.2 F.out;obtain⟨g,off,x,U,T,W⟩:=zu (S.out.ts.step TabD.keeps (zh HB.out F.out)) o;obtain⟨⟨c0,_⟩,⟨c1,_⟩,⟨c2,_⟩,⟨c3,_⟩,⟨c4,_⟩,⟨c5,_⟩,b4,has,f5⟩:=W;have h8:=f0.out.ts x (zol T);have h9:b0<wr.heap.size:=zog wr _ y0;have c6:Hid (∀w',Below wr.heap.size wr w'->Calls Tryz.prog 60 #[d.v,x.v] w' (xt w' (x.ks.map (fun r=>d.p.width r [])))):=fun w' h=>by
            rw[<-ze7 S.out];exact zea d x w' (S.out.step (zh (zh HB.out F.out) h)) (b4.step RefD.keeps h) (by have h5:x.ks.length<=500:=(HM.out.tl _ (zoJ.2 ⟨_,zol T,rfl⟩)).1;have:=b4.1;omega)
           generalize e3:x.ks.map (fun r=>d.p.width r [])=LL at*
           have h6:LL.length=x.keys.n:=by rw[<-e3,zoE,b4.1]
           have l:Hid (zO d.p 4 i=if 3<x.keys.n then 2 else if(0:Int)∈LL then 1 else zJ x.p LL d.p.al):=by
            show zcR d.p (d.p.ts.getD i PTab.z)=_;rw[show d.p.ts.getD i PTab.z=x.p from yY T _]
            unfold zcR;rw[show x.p.ks.length=x.keys.n from b4.1,show x.p.ks.map (fun r=>d.p.width r [])=LL from e3]
           have f3:Hid (∀w' a c,Below wr.heap.size wr w'->Has .i64 w' a LL.length LL->Calls Tryz.prog 62 #[x.v',.slice a LL.length c,.slice d.acts.a d.acts.n d.acts.c] w' fun e e4=>e=.returned (.int .i64 (zJ x.p LL d.p.al))/\Below w'.heap.size w' e4):=fun w' a c h hh=>
            zkp x ⟨a,LL.length,c⟩ LL d.acts d.al w' hh (has.step h) (f5.step h) (S.out.al.step ActD.keeps (zh (zh HB.out F.out) h)) (zkb S.out (P4.out 3 (by decide))) (fun y hy=>by have:=f0.out.aw y hy;omega) (by omega)
           have h7:Hid (LL.length<=100000):=by show LL.length<=100000;omega
           unfold PlanD.v at c6;rw[U]at c6 y4 z4;generalize zJ x.p LL d.p.al=CC at*;have BX:Hid (Below D.heap.size D (wr.alloc (.cells #[.int .i64 x.kind,.slice x.keys.a x.keys.n x.keys.c,.slice x.acts.a x.acts.n x.acts.c,.int .i64 x.cap,.int .i64 x.dflt,.slice x.args.a x.args.n x.args.c] 69))):=ze F.out;clear U T b4 has f5 h8 e3 h6;by_cases q1:(3:Int)<(x.keys.n:Int)
           ·have f1:=zoY q1;have B:Hid (∀w',Below w.heap.size w w'->zI d (zO d.p) w (.returned (.agg #[.int .i64 (2),.int .i64 (5000+(i:Int))])) w'):=fun w' h=>⟨_,_,ju (k:=4) (n:=i) (by decide) P4.out b9.out o a4.out (by rw[l.out];exact if_pos (by omega)) (by decide) (by omega),rfl,h⟩
            go_wp2_with fail
            refine(zA _ _ _).mono ?_;rintro e m ⟨rfl,b⟩;obtain⟨t0,t1,r0,r1,C⟩:=A.out m (zh BX.out b);have f:=hid (t.out m (.int .i64 (2)) (.int .i64 (5000+(i:Int))) (zh BX.out b));clear b;go_wp2;exact bodyPost_ret (v:=.agg #[.int .i64 (2),.int .i64 (5000+(i:Int))]) (by simp[results,Tryz.results28,go_sem, *]) rfl (B.out _ f.out)
           have f1:=zoX q1;rw[if_neg (by omega)]at l
           obtain⟨W5,hW5⟩:∃W5,W5=wr.alloc (.cells #[.int .i64 x.kind,.slice x.keys.a x.keys.n x.keys.c,.slice x.acts.a x.acts.n x.acts.c,.int .i64 x.cap,.int .i64 x.dflt,.slice x.args.a x.args.n x.args.c] 69):=⟨_,rfl⟩;obtain⟨p6,hp6⟩:∃p,p=wr.heap.size:=⟨_,rfl⟩;have Z:∀j v,(#[.int .i64 x.kind,.slice x.keys.a x.keys.n x.keys.c,.slice x.acts.a x.acts.n x.acts.c,.int .i64 x.cap,.int .i64 x.dflt,.slice x.args.a x.args.n x.args.c]:Array Value)[j]?=some v->W5.cell? ⟨p6,j,none⟩=some v:=fun j v hv=>by rw[hW5,hp6];exact(zod _ _ _ _ rfl).trans hv
           have B5:Hid (Below wr.heap.size wr W5):=by rw[hW5];exact ze (zof _ _)
           have v0:=Z 0 _ rfl;have v1:=Z 1 _ rfl;have v2:=Z 2 _ rfl;have v3:=Z 3 _ rfl;have v4:=Z 4 _ rfl;have v5:=Z 5 _ rfl;have h2:=hid hW5;have f6:=hid hp6;have h4:=hid (c6.out W5 B5.out);clear Z hW5 hp6 q1 BX c6;go_wp2_with fail
           rw[<-h2.out,<-f6.out];clear h2 f6 c0 c1 c2 c3 c4 c5;refine h4.out.mono ?_;rintro e w3 ⟨a3,c3,rfl,_,e5,E⟩;have B3:=hid (zh B5.out E);have HC:=hid (zh F.out B3.out);have v0:=za v0 E;have v1:=za v1 E;have v2:=za v2 E;have v3:=za v3 E;have v4:=za v4 E;have v5:=za v5 E;have a2:=hid (zd7 a3 LL.length c3 LL 0 w3 h7.out e5);have g8:=hid (f3.out w3 a3 c3 B3.out e5);have y3:=za s.out.2.2.2.1 HC.out;clear E e5 h4 B5 f3;by_cases q2:(0:Int)∈LL
           ·rw[zoY q2]at a2;rw[if_pos q2]at l;clear q2;go_wp2_with fail
            refine a2.out.mono ?_;rintro e w4 ⟨rfl,rfl⟩;clear a2;have B:Hid (∀w',Below w.heap.size w w'->zI d (zO d.p) w (.returned (.agg #[.int .i64 (1),.int .i64 (5000+(i:Int))])) w'):=fun w' h=>⟨_,_,ju (k:=4) (n:=i) (by decide) P4.out b9.out o a4.out l.out (by decide) (by omega),rfl,h⟩
            go_wp2_with fail
            refine(zA _ _ _).mono ?_;rintro e m ⟨rfl,b⟩;obtain⟨t0,t1,r0,r1,C⟩:=A.out m (zh HC.out b);have f:=hid (t.out m (.int .i64 (1)) (.int .i64 (5000+(i:Int))) (zh HC.out b));clear b;go_wp2;exact bodyPost_ret (v:=.agg #[.int .i64 (1),.int .i64 (5000+(i:Int))]) (by simp[results,Tryz.results28,go_sem, *]) rfl (B.out _ f.out)
           rw[zoX q2]at a2;rw[if_neg q2]at l;clear q2;go_wp2_with fail
           refine a2.out.mono ?_;rintro e w4 ⟨rfl,rfl⟩;clear a2;go_wp2_with fail
           refine g8.out.mono ?_;rintro e w5 ⟨rfl,g9⟩;have HC:=hid (zh HC.out g9);clear g9 g8;by_cases H:CC=0
           ·have R:(CC !=0)=false:=by simpa using H
            have HN:=hid (kC a4.out (by rw[l.out];exact H))
            clear H;go_wp2;go_roundw
            case rel=>exact⟨i+1,by omega,by go_num,HN,HC⟩
            case measure=>simp[intOf];omega
           ·have R:(CC !=0)=true:=by simpa using H
            have B:Hid (∀w',Below w.heap.size w w'->zI d (zO d.p) w (.returned (.agg #[.int .i64 (CC),.int .i64 (5000+(i:Int))])) w'):=fun w' h=>⟨_,_,ju (k:=4) (n:=i) (by decide) P4.out b9.out o a4.out l.out H (by omega),rfl,h⟩
            go_wp2_with fail
            refine(zA _ _ _).mono ?_;rintro e m ⟨rfl,b⟩;obtain⟨t0,t1,r0,r1,C⟩:=A.out m (zh HC.out b);have f:=hid (t.out m (.int .i64 (CC)) (.int .i64 (5000+(i:Int))) (zh HC.out b));clear b;go_wp2;exact bodyPost_ret (v:=.agg #[.int .i64 (CC),.int .i64 (5000+(i:Int))]) (by simp[results,Tryz.results28,go_sem, *]) rfl (B.out _ f.out)
          ·have O:¬(i:Int)<(d.tabs.n:Int):=by omega
           have P5:Hid (∀j,j<5->yE d (zO d.p) j):=qy (k:=4) P4.out b9.out (fun j L=>a4.out j (by have a6:j<d.tabs.n:=L;omega))
           clear a4;have z5:=za s.out.2.2.2.2.2.1 F.out;by_cases d7:(10:Int)<(d.nodes.n:Int)
           ·have g:=zoY d7;have B:Hid (∀w',Below w.heap.size w w'->zI d (zO d.p) w (.returned (.agg #[.int .i64 (2),.int .i64 (-6)])) w'):=fun w' h=>⟨_,_,jH (k:=5) (by decide) P5.out (.inr d7),rfl,h⟩
            go_wp2_with fail
            refine(zA _ _ _).mono ?_;rintro e m ⟨rfl,b⟩;obtain⟨t0,t1,r0,r1,C⟩:=A.out m (zh F.out b);have f:=hid (t.out m (.int .i64 (2)) (.int .i64 (-6)) (zh F.out b));clear b;go_wp2;exact bodyPost_ret (v:=.agg #[.int .i64 (2),.int .i64 (-6)]) (by simp[results,Tryz.results28,go_sem, *]) rfl (B.out _ f.out)
           have g5:=zoX d7;have f9:Hid (¬((zM d 5:Int)<zS 5\/yh 5<(zM d 5:Int))):=fun h=>h.elim (fun h=>absurd h (by show¬(d.nodes.n:Int)<0;omega)) d7
           go_wp2;go_loopw [15,16] (fun q _ wr=>∃i:Nat,i<=d.nodes.n/\q=.int .i64 i/\Hid (∀j,j<i->zO d.p 5 j=0)/\Hid (Below D.heap.size D wr)) (fun q _ _=>d.nodes.n-(intOf q).toNat)
           case atStart=>exact⟨0,zon _,rfl,fun j L=>absurd L (zoN _),F⟩
           case round=>
            obtain⟨i,hi,rfl,d8,I⟩:=hrel;have z5:=za s.out.2.2.2.2.2.1 I.out;by_cases o:i<d.nodes.n
            ·have O:(i:Int)<(d.nodes.n:Int):=by omega
             have y0:=za s.out.1 I.out;have y1:=za s.out.2.1 I.out;have y2:=za s.out.2.2.1 I.out;have y3:=za s.out.2.2.2.1 I.out;have y4:=za s.out.2.2.2.2.1 I.out;have y5:=za s.out.2.2.2.2.2.1 I.out;have y6:=za s.out.2.2.2.2.2.2 I.out;obtain⟨g,off,x,U,T,W⟩:=zu (S.out.ns.step NodeD.keeps (zh HB.out I.out)) o;have a8:=S.out.step (zh HB.out I.out);have a7:=hid (zik d wr a8 i o x T);have l:Hid (zO d.p 5 i=yG d.p i x.p):=by
              show yG d.p i (d.p.ns.getD i PNode.z)=_;rw[show d.p.ns.getD i PNode.z=x.p from yY T _]
             generalize yG d.p i x.p=CC at*;clear U T W a8;go_wp2_with fail
             refine a7.out.mono ?_;rintro e w3 ⟨rfl,E⟩;have HC:=hid (zh I.out E);clear E a7;by_cases H:CC=0
             ·have R:(CC !=0)=false:=by simpa using H
              have HN:=hid (kC d8.out (by rw[l.out];exact H))
              clear H;go_wp2;go_roundw
              case rel=>exact⟨i+1,by omega,by go_num,HN,HC⟩
              case measure=>simp[intOf];omega
             ·have R:(CC !=0)=true:=by simpa using H
              have B:Hid (∀w',Below w.heap.size w w'->zI d (zO d.p) w (.returned (.agg #[.int .i64 (CC),.int .i64 (6000+(i:Int))])) w'):=fun w' h=>⟨_,_,ju (k:=5) (n:=i) (by decide) P5.out f9.out o d8.out l.out H (by omega),rfl,h⟩
              go_wp2_with fail
              refine(zA _ _ _).mono ?_;rintro e m ⟨rfl,b⟩;obtain⟨t0,t1,r0,r1,C⟩:=A.out m (zh HC.out b);have f:=hid (t.out m (.int .i64 (CC)) (.int .i64 (6000+(i:Int))) (zh HC.out b));clear b;go_wp2;exact bodyPost_ret (v:=.agg #[.int .i64 (CC),.int .i64 (6000+(i:Int))]) (by simp[results,Tryz.results28,go_sem, *]) rfl (B.out _ f.out)
            ·have O:¬(i:Int)<(d.nodes.n:Int):=by omega
             have P6:Hid (∀j,j<6->yE d (zO d.p) j):=qy (k:=5) P5.out f9.out (fun j L=>d8.out j (by have a6:j<d.nodes.n:=L;omega))
             clear d8;have z6:=za s.out.2.2.2.2.2.2 I.out;by_cases d2:(6:Int)<(d.out.n:Int)
             ·have g:=zoY d2;have B:Hid (∀w',Below w.heap.size w w'->zI d (zO d.p) w (.returned (.agg #[.int .i64 (2),.int .i64 (-7)])) w'):=fun w' h=>⟨_,_,jH (k:=6) (by decide) P6.out (.inr d2),rfl,h⟩
              go_wp2_with fail
              refine(zA _ _ _).mono ?_;rintro e m ⟨rfl,b⟩;obtain⟨t0,t1,r0,r1,C⟩:=A.out m (zh I.out b);have f:=hid (t.out m (.int .i64 (2)) (.int .i64 (-7)) (zh I.out b));clear b;go_wp2;exact bodyPost_ret (v:=.agg #[.int .i64 (2),.int .i64 (-7)]) (by simp[results,Tryz.results28,go_sem, *]) rfl (B.out _ f.out)
             have g6:=zoX d2;have e6:Hid (¬((zM d 6:Int)<zS 6\/yh 6<(zM d 6:Int))):=fun h=>h.elim (fun h=>absurd h (by show¬(d.out.n:Int)<0;omega)) d2
             go_wp2;go_loopw [17] (fun q wr=>∃i:Nat,i<=d.out.n/\q=.int .i64 i/\Hid (∀j,j<i->zO d.p 6 j=0)/\Hid (Below D.heap.size D wr)) (fun q _=>d.out.n-(intOf q).toNat)
             case atStart=>exact⟨0,zon _,rfl,fun j L=>absurd L (zoN _),I⟩
             case round=>
              obtain⟨i,hi,rfl,a9,N⟩:=hrel;have z6:=za s.out.2.2.2.2.2.2 N.out;by_cases o:i<d.out.n
              ·have O:(i:Int)<(d.out.n:Int):=by omega
               have y0:=za s.out.1 N.out;have y1:=za s.out.2.1 N.out;have y2:=za s.out.2.2.1 N.out;have y3:=za s.out.2.2.2.1 N.out;have y4:=za s.out.2.2.2.2.1 N.out;have y5:=za s.out.2.2.2.2.2.1 N.out;have y6:=za s.out.2.2.2.2.2.2 N.out;obtain⟨g,off,u,U,hu,r0⟩:=xQ (S.out.os.step (zh HB.out N.out)) o;have V:Hid (∀p:zq wr,Calls Tryz.prog 64 #[d.v,.int .i64 u] p.to fun e w'=>e=.returned (.bool (decide (0<=u/\u<(d.heads.n:Int))))/\Below p.to.heap.size p.to w'):=fun p=>qE d u p.to
               have d0:Hid (∀w',Below wr.heap.size wr w'->∀p:zq w',Calls Tryz.prog 61 #[.slice d.out.a i d.out.c,.int .i64 u] p.to fun e e4=>e=.returned (.bool (decide (u∈d.os.take i)))/\e4=p.to):=fun w' h p=>zd7 d.out.a i d.out.c (d.os.take i) u p.to (by omega) (zeU ((S.out.os.step (zh HB.out N.out)).step (zh h p.h)) (by omega))
               have l:Hid (zO d.p 6 i=if 0<=u/\u<(d.heads.n:Int)then(if u∈d.os.take i then 7 else 0)else 1):=by
                show zf4 d.p i=_;unfold zf4;rw[show d.p.os.getD i 0=u from by rw[zoi];show d.os[i]?.getD 0=u;rw[hu];rfl,show d.p.hs.length=d.heads.n by simp[PlanD.p,S.out.hs.1]]
                rfl
               have i0:(d.out.n:Int)<=(d.out.c:Int):=by have:=S.out.oc;omega
               have i3:(i:Int)<=(d.out.n:Int):=by omega
               unfold PlanD.v at V;rw[U]at V y6 z6 d0;have b6:=zm y0;have e2:=zm y1;have c9:=zm y2;have d6:=zm y3;have d1:=zm y4;have c8:=zm y5;have b2:=zm y6;have e8:=zm r0;clear U hu;by_cases q1:0<=u/\u<(d.heads.n:Int)
               ·rw[zoY q1]at V;rw[if_pos q1]at l;clear q1;go_wp2_with fail
                haveI inhB:∀w:World,Inhabited (zq w):=fun w=>⟨⟨w,zof _ _⟩⟩
                refine zi (by kernel_rfl) (by kernel_rfl) ?_
                repeat (go_big_quiet_step (first|(go_at_call 64;exact zT _ (V.out _))))
                refine wpQuiet_nil ?_;intro wq Q;obtain⟨⟨_,G⟩,M⟩:=Q;subst M;have HC:=hid (zh N.out G);have y6:=za y6 G;have r0:=za r0 G;have a5:=hid (d0.out wq G);have b2:=zm y6;have e8:=zm r0;clear G V b6 e2 c9 d6 d1 c8 d0;by_cases q2:u∈d.os.take i
                ·rw[zoY q2]at a5;rw[if_pos q2]at l;clear q2;go_wp2_with fail
                 haveI inhB:∀w:World,Inhabited (zq w):=fun w=>⟨⟨w,zof _ _⟩⟩
                 refine zi (by kernel_rfl) (by kernel_rfl) ?_
                 repeat (go_big_quiet_step (first|(go_at_call 61;exact zt _ (a5.out _))))
                 refine wpQuiet_nil ?_;intro wq Q;obtain⟨⟨_,G⟩,M⟩:=Q;subst M;have HC:=hid (zh HC.out G);clear G a5 b2 e8;have B:Hid (∀w',Below w.heap.size w w'->zI d (zO d.p) w (.returned (.agg #[.int .i64 (7),.int .i64 (7000+(i:Int))])) w'):=fun w' h=>⟨_,_,ju (k:=6) (n:=i) (by decide) P6.out e6.out o a9.out l.out (by decide) (by omega),rfl,h⟩
                 go_wp2_with fail
                 refine(zA _ _ _).mono ?_;rintro e m ⟨rfl,b⟩;obtain⟨t0,t1,r0,r1,C⟩:=A.out m (zh HC.out b);have f:=hid (t.out m (.int .i64 (7)) (.int .i64 (7000+(i:Int))) (zh HC.out b));clear b;go_wp2;exact bodyPost_ret (v:=.agg #[.int .i64 (7),.int .i64 (7000+(i:Int))]) (by simp[results,Tryz.results28,go_sem, *]) rfl (B.out _ f.out)
                ·rw[zoX q2]at a5;rw[if_neg q2]at l;clear q2;go_wp2_with fail
                 haveI inhB:∀w:World,Inhabited (zq w):=fun w=>⟨⟨w,zof _ _⟩⟩
                 refine zi (by kernel_rfl) (by kernel_rfl) ?_
                 repeat (go_big_quiet_step (first|(go_at_call 61;exact zt _ (a5.out _))))
                 refine wpQuiet_nil ?_;intro wq Q;obtain⟨⟨_,G⟩,M⟩:=Q;subst M;have HC:=hid (zh HC.out G);have HN:=hid (kC a9.out l.out);clear G a5 b2 e8;go_wp2;go_roundw
                 case rel=>exact⟨i+1,by omega,by go_num,HN,HC⟩
                 case measure=>simp[intOf];omega
               ·rw[zoX q1]at V;rw[if_neg q1]at l;clear q1;go_wp2_with fail
                haveI inhB:∀w:World,Inhabited (zq w):=fun w=>⟨⟨w,zof _ _⟩⟩
                refine zi (by kernel_rfl) (by kernel_rfl) ?_
                repeat (go_big_quiet_step (first|(go_at_call 64;exact zT _ (V.out _))))
                refine wpQuiet_nil ?_;intro wq Q;obtain⟨⟨_,G⟩,M⟩:=Q;subst M;have HC:=hid (zh N.out G);clear G V b6 e2 c9 d6 d1 c8 d0;have B:Hid (∀w',Below w.heap.size w w'->zI d (zO d.p) w (.returned (.agg #[.int .i64 (1),.int .i64 (7000+(i:Int))])) w'):=fun w' h=>⟨_,_,ju (k:=6) (n:=i) (by decide) P6.out e6.out o a9.out l.out (by decide) (by omega),rfl,h⟩
                go_wp2_with fail
                refine(zA _ _ _).mono ?_;rintro e m ⟨rfl,b⟩;obtain⟨t0,t1,r0,r1,C⟩:=A.out m (zh HC.out b);have f:=hid (t.out m (.int .i64 (1)) (.int .i64 (7000+(i:Int))) (zh HC.out b));clear b;go_wp2;exact bodyPost_ret (v:=.agg #[.int .i64 (1),.int .i64 (7000+(i:Int))]) (by simp[results,Tryz.results28,go_sem, *]) rfl (B.out _ f.out)
              ·have O:¬(i:Int)<(d.out.n:Int):=by omega
               have P7:Hid (∀j,j<7->yE d (zO d.p) j):=qy (k:=6) P6.out e6.out (fun j L=>a9.out j (by have a6:j<d.out.n:=L;omega))
               clear a9;have B:Hid (∀w',Below w.heap.size w w'->zI d (zO d.p) w (.returned (.agg #[.int .i64 0,.int .i64 0])) w'):=fun w' h=>⟨0,0,.inr ⟨P7.out,rfl,rfl⟩,rfl,h⟩
               obtain⟨t0,t1,r0,r1,C⟩:=A.out wr N.out;have f:=hid (t.out wr (.int .i64 0) (.int .i64 0) N.out);go_wp2;exact bodyPost_ret (v:=.agg #[.int .i64 0,.int .i64 0]) (by simp[results,Tryz.results28,go_sem, *]) rfl (B.out _ f.out)
end Go.Proofs.YtdajaaondlekfaaGreat
