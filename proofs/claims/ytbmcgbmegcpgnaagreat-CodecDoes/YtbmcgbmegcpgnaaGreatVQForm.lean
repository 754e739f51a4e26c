import Derived.Test.YtbmcgbmegcpgnaaGreatG16
import Derived.Test.YtbmcgbmegcpgnaaGreatVQGreat2
set_option maxHeartbeats 64000000
set_option maxRecDepth 20000
set_option linter.unusedSimpArgs false
namespace Go.Proofs.YtbmcgbmegcpgnaaGreat
open Go.RowKit
theorem ju{d:PlanD}{cs:Nat->Nat->Int}{k n:Nat}{C A:Int}(e:k<7)(a:∀j,j<k->yE d cs j)(h:¬((zM d k:Int)<zS k\/yh k<(zM d k:Int)))(g:n<zM d k)(hz:∀j,j<n->cs k j=0)(f:cs k n=C)(b:C≠0)(c:A=1000*((k:Int)+1)+n):jG d cs C A:=by
 rw[c];exact znJ e a h g hz f b
theorem zrO(d:PlanD)(w:World)(hl:d.lie w)(hm:d.p.mid):Calls Tryz.prog 8 #[d.v] w (zI d (zO d.p) w):=by
 obtain⟨E,hW⟩:∃E,E=(w.alloc d.box).alloc FZ:=⟨_,rfl⟩;obtain⟨b0,h0⟩:∃b0,b0=w.heap.size:=⟨_,rfl⟩;obtain⟨b1,h1⟩:∃b1,b1=w.heap.size+1:=⟨_,rfl⟩;have f4:E.heap.size=w.heap.size+2:=by rw[hW];simp
 have zc:E.cell? ⟨b0,0,none⟩=some (.slice d.heads.a d.heads.n d.heads.c)/\E.cell? ⟨b0,1,none⟩=some (.slice d.mta.a d.mta.n d.mta.c)/\E.cell? ⟨b0,2,none⟩=some (.slice d.states.a d.states.n d.states.c)/\E.cell? ⟨b0,3,none⟩=some (.slice d.acts.a d.acts.n d.acts.c)/\E.cell? ⟨b0,4,none⟩=some (.slice d.tabs.a d.tabs.n d.tabs.c)/\E.cell? ⟨b0,5,none⟩=some (.slice d.nodes.a d.nodes.n d.nodes.c)/\E.cell? ⟨b0,6,none⟩=some (.slice d.out.a d.out.n d.out.c):=by rw[hW,h0];refine⟨?_,?_,?_,?_,?_,?_,?_⟩<;>exact(zoe _ _ _ (by simp)).trans ((zod _ _ _ _ rfl).trans rfl)
 have HB:Hid (Below w.heap.size w E):=by rw[hW];exact ze (ze (zof _ _))
 have A:Hid (∀w',Below E.heap.size E w'->w'.cell? ⟨b1,0,none⟩=some (.int .i64 0)/\w'.cell? ⟨b1,1,none⟩=some (.int .i64 0)/\w'.frozen? ⟨b1,0,none⟩=false/\w'.frozen? ⟨b1,1,none⟩=false/\b1<w'.heap.size):=fun w' h=>by
  have hb:b1<E.heap.size:=by rw[f4,h1];omega
  have I:∀i v,(#[.int .i64 0,.int .i64 0]:Array Value)[i]?=some v->w'.cell? ⟨b1,i,none⟩=some v:=fun i v hv=>za (by rw[hW,h1];exact(zod _ _ _ _ (by simp)).trans hv) h
  have hf:∀i,w'.frozen? ⟨b1,i,none⟩=false:=fun i=>(h.frozen (p:=⟨b1,i,none⟩) hb).trans (by rw[hW,h1];exact zoB _ _ _ _ (by simp))
  exact⟨I 0 _ rfl,I 1 _ rfl,hf 0,hf 1,zom hb h.size⟩
 have t:Hid (∀w' x y,Below E.heap.size E w'->Below w.heap.size w ((w'.setCell ⟨b1,0,none⟩ x).setCell ⟨b1,1,none⟩ y)):=fun w' x y h=>(zoV (zoV (zh HB.out h) (by show w.heap.size<=b1;omega) _) (by show w.heap.size<=b1;omega) _)
 have EW:=hid hW;have E0:=hid h0;have E1:=hid h1;have s:=hid zc;have S:=hid hl;have HM:=hid hm;have f9:=hid (zrq hl hm);have e7:=hid (zof E.heap.size E);obtain⟨z0,z1,z2,z3,z4,z5,z6⟩:=zc;have P0:Hid (∀j,j<0->yE d (zO d.p) j):=fun j M=>absurd M (zoN _)
 have i3:d.heads.n<=10000:=by have:=hm.hs;simp[PlanD.p,hl.hs.1]at this;exact this
 have i5:d.mta.n<=10000:=by have:=hm.ms;simp[PlanD.p,hl.ms.1]at this;exact this
 have i6:d.states.n<=10000:=by have:=hm.ss;simp[PlanD.p,hl.ss.1]at this;exact this
 have i7:d.acts.n<=10000:=by have:=hm.al;simp[PlanD.p,hl.al.1]at this;exact this
 have j0:d.tabs.n<=10000:=by have:=hm.ts;simp[PlanD.p,hl.ts.1]at this;exact this
 have i9:d.nodes.n<=10000:=by have:=hm.ns;simp[PlanD.p,hl.ns.1]at this;exact this
 have i4:d.out.n<=10000:=by have:=hm.os;simp[PlanD.p,hl.os.1]at this;exact this
 clear hW h0 h1 hl hm f4;by_cases d7:(6:Int)<(d.heads.n:Int)
 ·have g:=zoY d7;have C:Hid (∀w',Below w.heap.size w w'->zI d (zO d.p) w (.returned (.agg #[.int .i64 (2),.int .i64 (-1)])) w'):=fun w' h=>⟨_,_,jH (k:=0) (by decide) P0.out (.inr d7),rfl,h⟩
  go_enter Tryz.func8,Tryz.ntmps8
  go_wp2_with fail
  rw[<-EW.out,<-E1.out,<-E0.out];refine(zA _ _ _).mono ?_;rintro e m ⟨rfl,b⟩;obtain⟨T,V,R,U,B⟩:=A.out m (zh e7.out b);have f:=hid (t.out m (.int .i64 (2)) (.int .i64 (-1)) (zh e7.out b));clear b;go_wp2;exact bodyPost_ret (v:=.agg #[.int .i64 (2),.int .i64 (-1)]) (by simp[results,Tryz.results8,go_sem, *]) rfl (C.out _ f.out)
 have g0:=zoX d7;have f5:Hid (¬((zM d 0:Int)<zS 0\/yh 0<(zM d 0:Int))):=fun h=>h.elim (fun h=>absurd h (by show¬(d.heads.n:Int)<0;omega)) d7
 go_enter Tryz.func8,Tryz.ntmps8
 go_wp2;rw[<-EW.out,<-E1.out,<-E0.out];clear EW E0 E1;go_loopw [3,4,5] (fun q _ _ wr=>∃i:Nat,i<=d.heads.n/\q=.int .i64 i/\Hid (∀j,j<i->zO d.p 0 j=0)/\Hid (Below E.heap.size E wr)) (fun q _ _ _=>d.heads.n-(intOf q).toNat)
 case atStart=>exact⟨0,zon _,rfl,fun j M=>absurd M (zoN _),e7⟩
 case round=>
  obtain⟨i,hi,rfl,c9,a4⟩:=hrel;have z0:=za s.out.1 a4.out;by_cases o:i<d.heads.n
  ·have P:(i:Int)<(d.heads.n:Int):=by omega
   obtain⟨g,off,x,Y,Z,hp⟩:=zu (S.out.hs.step HeadD.keeps (zh HB.out a4.out)) o;obtain⟨a0,ea0⟩:∃a,d.heads.a=a:=⟨_,rfl⟩;rw[ea0]at z0;obtain rfl:a0=some ⟨g,off,none⟩:=by rw[<-ea0];exact Y
   have c0:=Eq.mp (by rw[Nat.mul_one]) hp.1.1
   have h2:=hid (zfY x.w.a x.w.n x.w.c x.ws wr hp.2);have l:Hid (zO d.p 0 i=yJ x.ws):=by
    show yJ (d.p.hs.getD i [])=_;rw[show d.p.hs.getD i []=x.ws from yY Z _]
   generalize yJ x.ws=CC at*;clear Y ea0 Z hp;go_wp2_with fail
   refine h2.out.mono ?_;rintro e w3 ⟨xx,yy,rfl,F⟩;have D:Hid (Below E.heap.size E (w3.alloc (.cells #[.int .i64 CC,.int .i64 yy] 35))):=ze (zh a4.out F);clear F h2;by_cases I:CC=0
   ·have X:(CC !=0)=false:=by simpa using I
    have HN:=hid (kC c9.out (by rw[l.out];exact I))
    clear I;go_wp2;go_roundw
    case rel=>exact⟨i+1,by omega,by go_num,HN,D⟩
    case measure=>simp[intOf];omega
   ·have X:(CC !=0)=true:=by simpa using I
    have C:Hid (∀w',Below w.heap.size w w'->zI d (zO d.p) w (.returned (.agg #[.int .i64 (CC),.int .i64 (1000+(i:Int))])) w'):=fun w' h=>⟨_,_,ju (k:=0) (n:=i) (by decide) P0.out f5.out o c9.out l.out I (by omega),rfl,h⟩
    go_wp2_with fail
    refine(zA _ _ _).mono ?_;rintro e m ⟨rfl,b⟩;obtain⟨T,V,R,U,B⟩:=A.out m (zh D.out b);have f:=hid (t.out m (.int .i64 (CC)) (.int .i64 (1000+(i:Int))) (zh D.out b));clear b;go_wp2;exact bodyPost_ret (v:=.agg #[.int .i64 (CC),.int .i64 (1000+(i:Int))]) (by simp[results,Tryz.results8,go_sem, *]) rfl (C.out _ f.out)
  ·have P:¬(i:Int)<(d.heads.n:Int):=by omega
   have P1:Hid (∀j,j<1->yE d (zO d.p) j):=qy (k:=0) P0.out f5.out (fun j M=>c9.out j (by have a7:j<d.heads.n:=M;omega))
   clear c9;have z1:=za s.out.2.1 a4.out;by_cases e1:(4:Int)<(d.mta.n:Int)
   ·have g:=zoY e1;have C:Hid (∀w',Below w.heap.size w w'->zI d (zO d.p) w (.returned (.agg #[.int .i64 (2),.int .i64 (-2)])) w'):=fun w' h=>⟨_,_,jH (k:=1) (by decide) P1.out (.inr e1),rfl,h⟩
    go_wp2_with fail
    refine(zA _ _ _).mono ?_;rintro e m ⟨rfl,b⟩;obtain⟨T,V,R,U,B⟩:=A.out m (zh a4.out b);have f:=hid (t.out m (.int .i64 (2)) (.int .i64 (-2)) (zh a4.out b));clear b;go_wp2;exact bodyPost_ret (v:=.agg #[.int .i64 (2),.int .i64 (-2)]) (by simp[results,Tryz.results8,go_sem, *]) rfl (C.out _ f.out)
   have g1:=zoX e1;have e5:Hid (¬((zM d 1:Int)<zS 1\/yh 1<(zM d 1:Int))):=fun h=>h.elim (fun h=>absurd h (by show¬(d.mta.n:Int)<0;omega)) e1
   go_wp2;go_loopw [6] (fun q wr=>∃i:Nat,i<=d.mta.n/\q=.int .i64 i/\Hid (∀j,j<i->zO d.p 1 j=0)/\Hid (Below E.heap.size E wr)) (fun q _=>d.mta.n-(intOf q).toNat)
   case atStart=>exact⟨0,zon _,rfl,fun j M=>absurd M (zoN _),a4⟩
   case round=>
    obtain⟨i,hi,rfl,b5,Q⟩:=hrel;have z1:=za s.out.2.1 Q.out;by_cases o:i<d.mta.n
    ·have P:(i:Int)<(d.mta.n:Int):=by omega
     obtain⟨g,off,u,Y,hu,R⟩:=xQ (S.out.ms.step (zh HB.out Q.out)) o;obtain⟨a0,ea0⟩:∃a,d.mta.a=a:=⟨_,rfl⟩;rw[ea0]at z1;obtain rfl:a0=some ⟨g,off,none⟩:=by rw[<-ea0];exact Y
     have l:Hid (zO d.p 1 i=xC u):=by
      show xC (d.p.ms.getD i 0)=_;rw[show d.p.ms.getD i 0=u from by rw[zoi];show d.ms[i]?.getD 0=u;rw[hu];rfl]
     clear Y ea0 hu;by_cases q1:u<1
     ·have f1:=zoY q1;have C:Hid (∀w',Below w.heap.size w w'->zI d (zO d.p) w (.returned (.agg #[.int .i64 (6),.int .i64 (2000+(i:Int))])) w'):=fun w' h=>⟨_,_,ju (k:=1) (n:=i) (by decide) P1.out e5.out o b5.out (by rw[l.out];exact if_pos (.inl q1)) (by decide) (by omega),rfl,h⟩
      go_wp2_with fail
      refine(zA _ _ _).mono ?_;rintro e m ⟨rfl,b⟩;obtain⟨T,V,R,U,B⟩:=A.out m (zh Q.out b);have f:=hid (t.out m (.int .i64 (6)) (.int .i64 (2000+(i:Int))) (zh Q.out b));clear b;go_wp2;exact bodyPost_ret (v:=.agg #[.int .i64 (6),.int .i64 (2000+(i:Int))]) (by simp[results,Tryz.results8,go_sem, *]) rfl (C.out _ f.out)
     have f1:=zoX q1;by_cases q2:48<u
     ·have f2:=zoY q2;have C:Hid (∀w',Below w.heap.size w w'->zI d (zO d.p) w (.returned (.agg #[.int .i64 (6),.int .i64 (2000+(i:Int))])) w'):=fun w' h=>⟨_,_,ju (k:=1) (n:=i) (by decide) P1.out e5.out o b5.out (by rw[l.out];exact if_pos (.inr q2)) (by decide) (by omega),rfl,h⟩
      go_wp2_with fail
      refine(zA _ _ _).mono ?_;rintro e m ⟨rfl,b⟩;obtain⟨T,V,R,U,B⟩:=A.out m (zh Q.out b);have f:=hid (t.out m (.int .i64 (6)) (.int .i64 (2000+(i:Int))) (zh Q.out b));clear b;go_wp2;exact bodyPost_ret (v:=.agg #[.int .i64 (6),.int .i64 (2000+(i:Int))]) (by simp[results,Tryz.results8,go_sem, *]) rfl (C.out _ f.out)
     ·have f2:=zoX q2;have HN:=hid (kC b5.out (by rw[l.out];exact if_neg (by omega)))
      have D:=Q;go_wp2;go_roundw
      case rel=>exact⟨i+1,by omega,by go_num,HN,D⟩
      case measure=>simp[intOf];omega
    ·have P:¬(i:Int)<(d.mta.n:Int):=by omega
     have P2:Hid (∀j,j<2->yE d (zO d.p) j):=qy (k:=1) P1.out e5.out (fun j M=>b5.out j (by have a7:j<d.mta.n:=M;omega))
     clear b5;have z2:=za s.out.2.2.1 Q.out;by_cases d9:(d.states.n:Int)<1
     ·have g:=zoY d9;have C:Hid (∀w',Below w.heap.size w w'->zI d (zO d.p) w (.returned (.agg #[.int .i64 (2),.int .i64 (-3)])) w'):=fun w' h=>⟨_,_,jH (k:=2) (by decide) P2.out (.inl d9),rfl,h⟩
      go_wp2_with fail
      refine(zA _ _ _).mono ?_;rintro e m ⟨rfl,b⟩;obtain⟨T,V,R,U,B⟩:=A.out m (zh Q.out b);have f:=hid (t.out m (.int .i64 (2)) (.int .i64 (-3)) (zh Q.out b));clear b;go_wp2;exact bodyPost_ret (v:=.agg #[.int .i64 (2),.int .i64 (-3)]) (by simp[results,Tryz.results8,go_sem, *]) rfl (C.out _ f.out)
     have j1:=zoX d9;by_cases c8:(8:Int)<(d.states.n:Int)
     ·have g:=zoY c8;have C:Hid (∀w',Below w.heap.size w w'->zI d (zO d.p) w (.returned (.agg #[.int .i64 (2),.int .i64 (-3)])) w'):=fun w' h=>⟨_,_,jH (k:=2) (by decide) P2.out (.inr c8),rfl,h⟩
      go_wp2_with fail
      refine(zA _ _ _).mono ?_;rintro e m ⟨rfl,b⟩;obtain⟨T,V,R,U,B⟩:=A.out m (zh Q.out b);have f:=hid (t.out m (.int .i64 (2)) (.int .i64 (-3)) (zh Q.out b));clear b;go_wp2;exact bodyPost_ret (v:=.agg #[.int .i64 (2),.int .i64 (-3)]) (by simp[results,Tryz.results8,go_sem, *]) rfl (C.out _ f.out)
     have g2:=zoX c8;have g7:Hid (¬((zM d 2:Int)<zS 2\/yh 2<(zM d 2:Int))):=fun h=>h.elim d9 c8
     go_wp2;go_loopw [7,8] (fun q _ wr=>∃i:Nat,i<=d.states.n/\q=.int .i64 i/\Hid (∀j,j<i->zO d.p 2 j=0)/\Hid (Below E.heap.size E wr)) (fun q _ _=>d.states.n-(intOf q).toNat)
     case atStart=>exact⟨0,zon _,rfl,fun j M=>absurd M (zoN _),Q⟩
     case round=>
      obtain⟨i,hi,rfl,d8,K⟩:=hrel;have z2:=za s.out.2.2.1 K.out;by_cases o:i<d.states.n
      ·have P:(i:Int)<(d.states.n:Int):=by omega
       have y0:=za s.out.1 K.out;have y1:=za s.out.2.1 K.out;have y2:=za s.out.2.2.1 K.out;have y3:=za s.out.2.2.2.1 K.out;have y4:=za s.out.2.2.2.2.1 K.out;have y5:=za s.out.2.2.2.2.2.1 K.out;have y6:=za s.out.2.2.2.2.2.2 K.out;obtain⟨g,off,x,Y,Z,hp⟩:=zu (S.out.ss.step StateD.keeps (zh HB.out K.out)) o;have b2:=S.out.step (zh HB.out K.out);have b7:=hid (zf8 d wr b2 (zeQ S.out P2.out) i o x Z);have l:Hid (zO d.p 2 i=yu d.p i x.p):=by
        show yu d.p i (d.p.ss.getD i PState.z)=_;rw[show d.p.ss.getD i PState.z=x.p from yY Z _]
       generalize yu d.p i x.p=CC at*;clear Y Z hp b2;go_wp2_with fail
       refine b7.out.mono ?_;rintro e w3 ⟨rfl,F⟩;have D:=hid (zh K.out F);clear F b7;by_cases I:CC=0
       ·have X:(CC !=0)=false:=by simpa using I
        have HN:=hid (kC d8.out (by rw[l.out];exact I))
        clear I;go_wp2;go_roundw
        case rel=>exact⟨i+1,by omega,by go_num,HN,D⟩
        case measure=>simp[intOf];omega
       ·have X:(CC !=0)=true:=by simpa using I
        have C:Hid (∀w',Below w.heap.size w w'->zI d (zO d.p) w (.returned (.agg #[.int .i64 (CC),.int .i64 (3000+(i:Int))])) w'):=fun w' h=>⟨_,_,ju (k:=2) (n:=i) (by decide) P2.out g7.out o d8.out l.out I (by omega),rfl,h⟩
        go_wp2_with fail
        refine(zA _ _ _).mono ?_;rintro e m ⟨rfl,b⟩;obtain⟨T,V,R,U,B⟩:=A.out m (zh D.out b);have f:=hid (t.out m (.int .i64 (CC)) (.int .i64 (3000+(i:Int))) (zh D.out b));clear b;go_wp2;exact bodyPost_ret (v:=.agg #[.int .i64 (CC),.int .i64 (3000+(i:Int))]) (by simp[results,Tryz.results8,go_sem, *]) rfl (C.out _ f.out)
      ·have P:¬(i:Int)<(d.states.n:Int):=by omega
       have P3:Hid (∀j,j<3->yE d (zO d.p) j):=qy (k:=2) P2.out g7.out (fun j M=>d8.out j (by have a7:j<d.states.n:=M;omega))
       clear d8;have z3:=za s.out.2.2.2.1 K.out;by_cases c6:(8:Int)<(d.acts.n:Int)
       ·have g:=zoY c6;have C:Hid (∀w',Below w.heap.size w w'->zI d (zO d.p) w (.returned (.agg #[.int .i64 (2),.int .i64 (-4)])) w'):=fun w' h=>⟨_,_,jH (k:=3) (by decide) P3.out (.inr c6),rfl,h⟩
        go_wp2_with fail
        refine(zA _ _ _).mono ?_;rintro e m ⟨rfl,b⟩;obtain⟨T,V,R,U,B⟩:=A.out m (zh K.out b);have f:=hid (t.out m (.int .i64 (2)) (.int .i64 (-4)) (zh K.out b));clear b;go_wp2;exact bodyPost_ret (v:=.agg #[.int .i64 (2),.int .i64 (-4)]) (by simp[results,Tryz.results8,go_sem, *]) rfl (C.out _ f.out)
       have g3:=zoX c6;have g8:Hid (¬((zM d 3:Int)<zS 3\/yh 3<(zM d 3:Int))):=fun h=>h.elim (fun h=>absurd h (by show¬(d.acts.n:Int)<0;omega)) c6
       go_wp2;go_loopw [9,10] (fun q _ wr=>∃i:Nat,i<=d.acts.n/\q=.int .i64 i/\Hid (∀j,j<i->zO d.p 3 j=0)/\Hid (Below E.heap.size E wr)) (fun q _ _=>d.acts.n-(intOf q).toNat)
       case atStart=>exact⟨0,zon _,rfl,fun j M=>absurd M (zoN _),K⟩
       case round=>
        obtain⟨i,hi,rfl,e2,J⟩:=hrel;have z3:=za s.out.2.2.2.1 J.out;by_cases o:i<d.acts.n
        ·have P:(i:Int)<(d.acts.n:Int):=by omega
         have y0:=za s.out.1 J.out;have y1:=za s.out.2.1 J.out;have y2:=za s.out.2.2.1 J.out;have y3:=za s.out.2.2.2.1 J.out;have y4:=za s.out.2.2.2.2.1 J.out;have y5:=za s.out.2.2.2.2.2.1 J.out;have y6:=za s.out.2.2.2.2.2.2 J.out;obtain⟨g,off,x,Y,Z,hp⟩:=zu (S.out.al.step ActD.keeps (zh HB.out J.out)) o;have a5:Hid (∀p:zq wr,Calls Tryz.prog 24 #[d.v,.agg #[.slice x.w.a x.w.n x.w.c,.slice x.ops.a x.ops.n x.ops.c]] p.to fun e w'=>e=.returned (.int .i64 (ki d.p x.p))/\Below p.to.heap.size p.to w'):=fun p=>zko d x p.to (S.out.step (zh (zh HB.out J.out) p.h)) (hp.2.2.1.step p.h) (hp.2.2.2.step OpD.keeps p.h) (fun r=>(zeQ S.out (fun j M=>P3.out j (by omega)) r).1)
         have l:Hid (zO d.p 3 i=ki d.p x.p):=by
          show ki d.p (d.p.al.getD i PAct.z)=_;rw[show d.p.al.getD i PAct.z=x.p from yY Z _]
         have c0:=zm hp.1.1;have c1:=zm hp.2.1.1;unfold PlanD.v at a5;rw[Y]at a5 y3 z3;have d6:=zm y0;have b8:=zm y1;have d3:=zm y2;have d2:=zm y3;have d0:=zm y4;have c7:=zm y5;have b3:=zm y6;generalize ki d.p x.p=CC at*;clear Y Z hp;go_wp2_with fail
         haveI inhB:∀w:World,Inhabited (zq w):=fun w=>⟨⟨w,zof _ _⟩⟩
         refine zi (by kernel_rfl) (by kernel_rfl) ?_
         repeat (go_big_quiet_step (first|(go_at_call 24;exact zT _ (a5.out _))))
         refine wpQuiet_nil ?_;intro wq W;obtain⟨⟨_,H⟩,N⟩:=W;subst N;have D:=hid (zh J.out H);clear H a5 c0 c1 d6 b8 d3 d2 d0 c7 b3;by_cases I:CC=0
         ·have X:(CC !=0)=false:=by simpa using I
          have HN:=hid (kC e2.out (by rw[l.out];exact I))
          clear I;go_wp2;go_roundw
          case rel=>exact⟨i+1,by omega,by go_num,HN,D⟩
          case measure=>simp[intOf];omega
         ·have X:(CC !=0)=true:=by simpa using I
          have C:Hid (∀w',Below w.heap.size w w'->zI d (zO d.p) w (.returned (.agg #[.int .i64 (CC),.int .i64 (4000+(i:Int))])) w'):=fun w' h=>⟨_,_,ju (k:=3) (n:=i) (by decide) P3.out g8.out o e2.out l.out I (by omega),rfl,h⟩
          go_wp2_with fail
          refine(zA _ _ _).mono ?_;rintro e m ⟨rfl,b⟩;obtain⟨T,V,R,U,B⟩:=A.out m (zh D.out b);have f:=hid (t.out m (.int .i64 (CC)) (.int .i64 (4000+(i:Int))) (zh D.out b));clear b;go_wp2;exact bodyPost_ret (v:=.agg #[.int .i64 (CC),.int .i64 (4000+(i:Int))]) (by simp[results,Tryz.results8,go_sem, *]) rfl (C.out _ f.out)
        ·have P:¬(i:Int)<(d.acts.n:Int):=by omega
         have P4:Hid (∀j,j<4->yE d (zO d.p) j):=qy (k:=3) P3.out g8.out (fun j M=>e2.out j (by have a7:j<d.acts.n:=M;omega))
         clear e2;have z4:=za s.out.2.2.2.2.1 J.out;by_cases b9:(5:Int)<(d.tabs.n:Int)
         ·have g:=zoY b9;have C:Hid (∀w',Below w.heap.size w w'->zI d (zO d.p) w (.returned (.agg #[.int .i64 (2),.int .i64 (-5)])) w'):=fun w' h=>⟨_,_,jH (k:=4) (by decide) P4.out (.inr b9),rfl,h⟩
          go_wp2_with fail
          refine(zA _ _ _).mono ?_;rintro e m ⟨rfl,b⟩;obtain⟨T,V,R,U,B⟩:=A.out m (zh J.out b);have f:=hid (t.out m (.int .i64 (2)) (.int .i64 (-5)) (zh J.out b));clear b;go_wp2;exact bodyPost_ret (v:=.agg #[.int .i64 (2),.int .i64 (-5)]) (by simp[results,Tryz.results8,go_sem, *]) rfl (C.out _ f.out)
         have g4:=zoX b9;have d1:Hid (¬((zM d 4:Int)<zS 4\/yh 4<(zM d 4:Int))):=fun h=>h.elim (fun h=>absurd h (by show¬(d.tabs.n:Int)<0;omega)) b9
         go_wp2;go_loopw [11,12,13,14] (fun q _ _ _ wr=>∃i:Nat,i<=d.tabs.n/\q=.int .i64 i/\Hid (∀j,j<i->zO d.p 4 j=0)/\Hid (Below E.heap.size E wr)) (fun q _ _ _ _=>d.tabs.n-(intOf q).toNat)
         case atStart=>exact⟨0,zon _,rfl,fun j M=>absurd M (zoN _),J⟩
         case round=>
          obtain⟨i,hi,rfl,a6,G⟩:=hrel;have z4:=za s.out.2.2.2.2.1 G.out;by_cases o:i<d.tabs.n
          ·have P:(i:Int)<(d.tabs.n:Int):=by omega
           have y0:=za s.out.1 G.out;have y1:=za s.out.2.1 G.out;have y2:=za s.out.2.2.1 G.out;have y3:=za s.out.2.2.2.1 G.out;have y4:=za s.out.2.2.2.2.1 G.out;have y5:=za s.out.2.2.2.2.2.1 G.out;have y6:=za s.out.2.2.2.2.2.2 G.out;obtain⟨g,off,x,Y,Z,hp⟩:=zu (S.out.ts.step TabD.keeps (zh HB.out G.out)) o;obtain⟨⟨c0,_⟩,⟨c1,_⟩,⟨c2,_⟩,⟨c3,_⟩,⟨c4,_⟩,⟨c5,_⟩,b6,has,h4⟩:=hp;have i0:=f9.out.ts x (zol Z);have i2:b0<wr.heap.size:=zog wr _ y0;have e3:Hid (∀w',Below wr.heap.size wr w'->Calls Tryz.prog 25 #[d.v,x.v] w' (xt w' (x.ks.map (fun r=>d.p.width r [])))):=fun w' h=>by
            rw[<-ze7 S.out];exact zea d x w' (S.out.step (zh (zh HB.out G.out) h)) (b6.step RefD.keeps h) (by have h5:x.ks.length<=10000:=(HM.out.tl _ (zoJ.2 ⟨_,zol Z,rfl⟩)).1;have:=b6.1;omega)
           generalize e8:x.ks.map (fun r=>d.p.width r [])=LL at*
           have h8:LL.length=x.keys.n:=by rw[<-e8,zoE,b6.1]
           have l:Hid (zO d.p 4 i=if 3<x.keys.n then 2 else if(0:Int)∈LL then 1 else zJ x.p LL d.p.al):=by
            show zcR d.p (d.p.ts.getD i PTab.z)=_;rw[show d.p.ts.getD i PTab.z=x.p from yY Z _]
            unfold zcR;rw[show x.p.ks.length=x.keys.n from b6.1,show x.p.ks.map (fun r=>d.p.width r [])=LL from e8]
           have f6:Hid (∀w' a c,Below wr.heap.size wr w'->Has .i64 w' a LL.length LL->Calls Tryz.prog 27 #[x.v',.slice a LL.length c,.slice d.acts.a d.acts.n d.acts.c] w' fun e f3=>e=.returned (.int .i64 (zJ x.p LL d.p.al))/\Below w'.heap.size w' f3):=fun w' a c h hh=>
            zkp x ⟨a,LL.length,c⟩ LL d.acts d.al w' hh (has.step h) (h4.step h) (S.out.al.step ActD.keeps (zh (zh HB.out G.out) h)) (zkb S.out (P4.out 3 (by decide))) (fun y hy=>by have:=f9.out.aw y hy;omega) (by omega)
           have h9:Hid (LL.length<=100000):=by show LL.length<=100000;omega
           unfold PlanD.v at e3;rw[Y]at e3 y4 z4;generalize zJ x.p LL d.p.al=CC at*;have BX:Hid (Below E.heap.size E (wr.alloc (.cells #[.int .i64 x.kind,.slice x.keys.a x.keys.n x.keys.c,.slice x.acts.a x.acts.n x.acts.c,.int .i64 x.cap,.int .i64 x.dflt,.slice x.args.a x.args.n x.args.c] 63))):=ze G.out;clear Y Z b6 has h4 i0 e8 h8;by_cases q1:(3:Int)<(x.keys.n:Int)
           ·have f1:=zoY q1;have C:Hid (∀w',Below w.heap.size w w'->zI d (zO d.p) w (.returned (.agg #[.int .i64 (2),.int .i64 (5000+(i:Int))])) w'):=fun w' h=>⟨_,_,ju (k:=4) (n:=i) (by decide) P4.out d1.out o a6.out (by rw[l.out];exact if_pos (by omega)) (by decide) (by omega),rfl,h⟩
            go_wp2_with fail
            refine(zA _ _ _).mono ?_;rintro e m ⟨rfl,b⟩;obtain⟨T,V,R,U,B⟩:=A.out m (zh BX.out b);have f:=hid (t.out m (.int .i64 (2)) (.int .i64 (5000+(i:Int))) (zh BX.out b));clear b;go_wp2;exact bodyPost_ret (v:=.agg #[.int .i64 (2),.int .i64 (5000+(i:Int))]) (by simp[results,Tryz.results8,go_sem, *]) rfl (C.out _ f.out)
           have f1:=zoX q1;rw[if_neg (by omega)]at l
           obtain⟨W5,hW5⟩:∃W5,W5=wr.alloc (.cells #[.int .i64 x.kind,.slice x.keys.a x.keys.n x.keys.c,.slice x.acts.a x.acts.n x.acts.c,.int .i64 x.cap,.int .i64 x.dflt,.slice x.args.a x.args.n x.args.c] 63):=⟨_,rfl⟩;obtain⟨p6,hp6⟩:∃p,p=wr.heap.size:=⟨_,rfl⟩;have a2:∀j v,(#[.int .i64 x.kind,.slice x.keys.a x.keys.n x.keys.c,.slice x.acts.a x.acts.n x.acts.c,.int .i64 x.cap,.int .i64 x.dflt,.slice x.args.a x.args.n x.args.c]:Array Value)[j]?=some v->W5.cell? ⟨p6,j,none⟩=some v:=fun j v hv=>by rw[hW5,hp6];exact(zod _ _ _ _ rfl).trans hv
           have B5:Hid (Below wr.heap.size wr W5):=by rw[hW5];exact ze (zof _ _)
           have v0:=a2 0 _ rfl;have v1:=a2 1 _ rfl;have v2:=a2 2 _ rfl;have v3:=a2 3 _ rfl;have v4:=a2 4 _ rfl;have v5:=a2 5 _ rfl;have f7:=hid hW5;have h6:=hid hp6;have h3:=hid (e3.out W5 B5.out);clear a2 hW5 hp6 q1 BX e3;go_wp2_with fail
           rw[<-f7.out,<-h6.out];clear f7 h6 c0 c1 c2 c3 c4 c5;refine h3.out.mono ?_;rintro e w3 ⟨a3,c3,rfl,_,e6,F⟩;have B3:=hid (zh B5.out F);have D:=hid (zh G.out B3.out);have v0:=za v0 F;have v1:=za v1 F;have v2:=za v2 F;have v3:=za v3 F;have v4:=za v4 F;have v5:=za v5 F;have a9:=hid (zd7 a3 LL.length c3 LL 0 w3 h9.out e6);have h7:=hid (f6.out w3 a3 c3 B3.out e6);have y3:=za s.out.2.2.2.1 D.out;clear F e6 h3 B5 f6;by_cases q2:(0:Int)∈LL
           ·rw[zoY q2]at a9;rw[if_pos q2]at l;clear q2;go_wp2_with fail
            refine a9.out.mono ?_;rintro e w4 ⟨rfl,rfl⟩;clear a9;have C:Hid (∀w',Below w.heap.size w w'->zI d (zO d.p) w (.returned (.agg #[.int .i64 (1),.int .i64 (5000+(i:Int))])) w'):=fun w' h=>⟨_,_,ju (k:=4) (n:=i) (by decide) P4.out d1.out o a6.out l.out (by decide) (by omega),rfl,h⟩
            go_wp2_with fail
            refine(zA _ _ _).mono ?_;rintro e m ⟨rfl,b⟩;obtain⟨T,V,R,U,B⟩:=A.out m (zh D.out b);have f:=hid (t.out m (.int .i64 (1)) (.int .i64 (5000+(i:Int))) (zh D.out b));clear b;go_wp2;exact bodyPost_ret (v:=.agg #[.int .i64 (1),.int .i64 (5000+(i:Int))]) (by simp[results,Tryz.results8,go_sem, *]) rfl (C.out _ f.out)
           rw[zoX q2]at a9;rw[if_neg q2]at l;clear q2;go_wp2_with fail
           refine a9.out.mono ?_;rintro e w4 ⟨rfl,rfl⟩;clear a9;go_wp2_with fail
           refine h7.out.mono ?_;rintro e w5 ⟨rfl,f8⟩;have D:=hid (zh D.out f8);clear f8 h7;by_cases I:CC=0
           ·have X:(CC !=0)=false:=by simpa using I
            have HN:=hid (kC a6.out (by rw[l.out];exact I))
            clear I;go_wp2;go_roundw
            case rel=>exact⟨i+1,by omega,by go_num,HN,D⟩
            case measure=>simp[intOf];omega
           ·have X:(CC !=0)=true:=by simpa using I
            have C:Hid (∀w',Below w.heap.size w w'->zI d (zO d.p) w (.returned (.agg #[.int .i64 (CC),.int .i64 (5000+(i:Int))])) w'):=fun w' h=>⟨_,_,ju (k:=4) (n:=i) (by decide) P4.out d1.out o a6.out l.out I (by omega),rfl,h⟩
            go_wp2_with fail
            refine(zA _ _ _).mono ?_;rintro e m ⟨rfl,b⟩;obtain⟨T,V,R,U,B⟩:=A.out m (zh D.out b);have f:=hid (t.out m (.int .i64 (CC)) (.int .i64 (5000+(i:Int))) (zh D.out b));clear b;go_wp2;exact bodyPost_ret (v:=.agg #[.int .i64 (CC),.int .i64 (5000+(i:Int))]) (by simp[results,Tryz.results8,go_sem, *]) rfl (C.out _ f.out)
          ·have P:¬(i:Int)<(d.tabs.n:Int):=by omega
           have P5:Hid (∀j,j<5->yE d (zO d.p) j):=qy (k:=4) P4.out d1.out (fun j M=>a6.out j (by have a7:j<d.tabs.n:=M;omega))
           clear a6;have z5:=za s.out.2.2.2.2.2.1 G.out;by_cases e4:(10:Int)<(d.nodes.n:Int)
           ·have g:=zoY e4;have C:Hid (∀w',Below w.heap.size w w'->zI d (zO d.p) w (.returned (.agg #[.int .i64 (2),.int .i64 (-6)])) w'):=fun w' h=>⟨_,_,jH (k:=5) (by decide) P5.out (.inr e4),rfl,h⟩
            go_wp2_with fail
            refine(zA _ _ _).mono ?_;rintro e m ⟨rfl,b⟩;obtain⟨T,V,R,U,B⟩:=A.out m (zh G.out b);have f:=hid (t.out m (.int .i64 (2)) (.int .i64 (-6)) (zh G.out b));clear b;go_wp2;exact bodyPost_ret (v:=.agg #[.int .i64 (2),.int .i64 (-6)]) (by simp[results,Tryz.results8,go_sem, *]) rfl (C.out _ f.out)
           have g5:=zoX e4;have g9:Hid (¬((zM d 5:Int)<zS 5\/yh 5<(zM d 5:Int))):=fun h=>h.elim (fun h=>absurd h (by show¬(d.nodes.n:Int)<0;omega)) e4
           go_wp2;go_loopw [15,16] (fun q _ wr=>∃i:Nat,i<=d.nodes.n/\q=.int .i64 i/\Hid (∀j,j<i->zO d.p 5 j=0)/\Hid (Below E.heap.size E wr)) (fun q _ _=>d.nodes.n-(intOf q).toNat)
           case atStart=>exact⟨0,zon _,rfl,fun j M=>absurd M (zoN _),G⟩
           case round=>
            obtain⟨i,hi,rfl,d5,L⟩:=hrel;have z5:=za s.out.2.2.2.2.2.1 L.out;by_cases o:i<d.nodes.n
            ·have P:(i:Int)<(d.nodes.n:Int):=by omega
             have y0:=za s.out.1 L.out;have y1:=za s.out.2.1 L.out;have y2:=za s.out.2.2.1 L.out;have y3:=za s.out.2.2.2.1 L.out;have y4:=za s.out.2.2.2.2.1 L.out;have y5:=za s.out.2.2.2.2.2.1 L.out;have y6:=za s.out.2.2.2.2.2.2 L.out;obtain⟨g,off,x,Y,Z,hp⟩:=zu (S.out.ns.step NodeD.keeps (zh HB.out L.out)) o;have b2:=S.out.step (zh HB.out L.out);have b7:=hid (zik d wr b2 i o x Z);have l:Hid (zO d.p 5 i=yG d.p i x.p):=by
              show yG d.p i (d.p.ns.getD i PNode.z)=_;rw[show d.p.ns.getD i PNode.z=x.p from yY Z _]
             generalize yG d.p i x.p=CC at*;clear Y Z hp b2;go_wp2_with fail
             refine b7.out.mono ?_;rintro e w3 ⟨rfl,F⟩;have D:=hid (zh L.out F);clear F b7;by_cases I:CC=0
             ·have X:(CC !=0)=false:=by simpa using I
              have HN:=hid (kC d5.out (by rw[l.out];exact I))
              clear I;go_wp2;go_roundw
              case rel=>exact⟨i+1,by omega,by go_num,HN,D⟩
              case measure=>simp[intOf];omega
             ·have X:(CC !=0)=true:=by simpa using I
              have C:Hid (∀w',Below w.heap.size w w'->zI d (zO d.p) w (.returned (.agg #[.int .i64 (CC),.int .i64 (6000+(i:Int))])) w'):=fun w' h=>⟨_,_,ju (k:=5) (n:=i) (by decide) P5.out g9.out o d5.out l.out I (by omega),rfl,h⟩
              go_wp2_with fail
              refine(zA _ _ _).mono ?_;rintro e m ⟨rfl,b⟩;obtain⟨T,V,R,U,B⟩:=A.out m (zh D.out b);have f:=hid (t.out m (.int .i64 (CC)) (.int .i64 (6000+(i:Int))) (zh D.out b));clear b;go_wp2;exact bodyPost_ret (v:=.agg #[.int .i64 (CC),.int .i64 (6000+(i:Int))]) (by simp[results,Tryz.results8,go_sem, *]) rfl (C.out _ f.out)
            ·have P:¬(i:Int)<(d.nodes.n:Int):=by omega
             have P6:Hid (∀j,j<6->yE d (zO d.p) j):=qy (k:=5) P5.out g9.out (fun j M=>d5.out j (by have a7:j<d.nodes.n:=M;omega))
             clear d5;have z6:=za s.out.2.2.2.2.2.2 L.out;by_cases d4:(6:Int)<(d.out.n:Int)
             ·have g:=zoY d4;have C:Hid (∀w',Below w.heap.size w w'->zI d (zO d.p) w (.returned (.agg #[.int .i64 (2),.int .i64 (-7)])) w'):=fun w' h=>⟨_,_,jH (k:=6) (by decide) P6.out (.inr d4),rfl,h⟩
              go_wp2_with fail
              refine(zA _ _ _).mono ?_;rintro e m ⟨rfl,b⟩;obtain⟨T,V,R,U,B⟩:=A.out m (zh L.out b);have f:=hid (t.out m (.int .i64 (2)) (.int .i64 (-7)) (zh L.out b));clear b;go_wp2;exact bodyPost_ret (v:=.agg #[.int .i64 (2),.int .i64 (-7)]) (by simp[results,Tryz.results8,go_sem, *]) rfl (C.out _ f.out)
             have g6:=zoX d4;have f0:Hid (¬((zM d 6:Int)<zS 6\/yh 6<(zM d 6:Int))):=fun h=>h.elim (fun h=>absurd h (by show¬(d.out.n:Int)<0;omega)) d4
             go_wp2;go_loopw [17] (fun q wr=>∃i:Nat,i<=d.out.n/\q=.int .i64 i/\Hid (∀j,j<i->zO d.p 6 j=0)/\Hid (Below E.heap.size E wr)) (fun q _=>d.out.n-(intOf q).toNat)
             case atStart=>exact⟨0,zon _,rfl,fun j M=>absurd M (zoN _),L⟩
             case round=>
              obtain⟨i,hi,rfl,b4,O⟩:=hrel;have z6:=za s.out.2.2.2.2.2.2 O.out;by_cases o:i<d.out.n
              ·have P:(i:Int)<(d.out.n:Int):=by omega
               have y0:=za s.out.1 O.out;have y1:=za s.out.2.1 O.out;have y2:=za s.out.2.2.1 O.out;have y3:=za s.out.2.2.2.1 O.out;have y4:=za s.out.2.2.2.2.1 O.out;have y5:=za s.out.2.2.2.2.2.1 O.out;have y6:=za s.out.2.2.2.2.2.2 O.out;obtain⟨g,off,u,Y,hu,R⟩:=xQ (S.out.os.step (zh HB.out O.out)) o;have a1:Hid (∀p:zq wr,Calls Tryz.prog 29 #[d.v,.int .i64 u] p.to fun e w'=>e=.returned (.bool (decide (0<=u/\u<(d.heads.n:Int))))/\Below p.to.heap.size p.to w'):=fun p=>qE d u p.to
               have e0:Hid (∀w',Below wr.heap.size wr w'->∀p:zq w',Calls Tryz.prog 26 #[.slice d.out.a i d.out.c,.int .i64 u] p.to fun e f3=>e=.returned (.bool (decide (u∈d.os.take i)))/\f3=p.to):=fun w' h p=>zd7 d.out.a i d.out.c (d.os.take i) u p.to (by omega) (zeU ((S.out.os.step (zh HB.out O.out)).step (zh h p.h)) (by omega))
               have l:Hid (zO d.p 6 i=if 0<=u/\u<(d.heads.n:Int)then(if u∈d.os.take i then 7 else 0)else 1):=by
                show zf4 d.p i=_;unfold zf4;rw[show d.p.os.getD i 0=u from by rw[zoi];show d.os[i]?.getD 0=u;rw[hu];rfl,show d.p.hs.length=d.heads.n by simp[PlanD.p,S.out.hs.1]]
                rfl
               have i1:(d.out.n:Int)<=(d.out.c:Int):=by have:=S.out.oc;omega
               have i8:(i:Int)<=(d.out.n:Int):=by omega
               unfold PlanD.v at a1;rw[Y]at a1 y6 z6 e0;have d6:=zm y0;have b8:=zm y1;have d3:=zm y2;have d2:=zm y3;have d0:=zm y4;have c7:=zm y5;have b3:=zm y6;have e9:=zm R;clear Y hu;by_cases q1:0<=u/\u<(d.heads.n:Int)
               ·rw[zoY q1]at a1;rw[if_pos q1]at l;clear q1;go_wp2_with fail
                haveI inhB:∀w:World,Inhabited (zq w):=fun w=>⟨⟨w,zof _ _⟩⟩
                refine zi (by kernel_rfl) (by kernel_rfl) ?_
                repeat (go_big_quiet_step (first|(go_at_call 29;exact zT _ (a1.out _))))
                refine wpQuiet_nil ?_;intro wq W;obtain⟨⟨_,H⟩,N⟩:=W;subst N;have D:=hid (zh O.out H);have y6:=za y6 H;have R:=za R H;have a8:=hid (e0.out wq H);have b3:=zm y6;have e9:=zm R;clear H a1 d6 b8 d3 d2 d0 c7 e0;by_cases q2:u∈d.os.take i
                ·rw[zoY q2]at a8;rw[if_pos q2]at l;clear q2;go_wp2_with fail
                 haveI inhB:∀w:World,Inhabited (zq w):=fun w=>⟨⟨w,zof _ _⟩⟩
                 refine zi (by kernel_rfl) (by kernel_rfl) ?_
                 repeat (go_big_quiet_step (first|(go_at_call 26;exact zt _ (a8.out _))))
                 refine wpQuiet_nil ?_;intro wq W;obtain⟨⟨_,H⟩,N⟩:=W;subst N;have D:=hid (zh D.out H);clear H a8 b3 e9;have C:Hid (∀w',Below w.heap.size w w'->zI d (zO d.p) w (.returned (.agg #[.int .i64 (7),.int .i64 (7000+(i:Int))])) w'):=fun w' h=>⟨_,_,ju (k:=6) (n:=i) (by decide) P6.out f0.out o b4.out l.out (by decide) (by omega),rfl,h⟩
                 go_wp2_with fail
                 refine(zA _ _ _).mono ?_;rintro e m ⟨rfl,b⟩;obtain⟨T,V,R,U,B⟩:=A.out m (zh D.out b);have f:=hid (t.out m (.int .i64 (7)) (.int .i64 (7000+(i:Int))) (zh D.out b));clear b;go_wp2;exact bodyPost_ret (v:=.agg #[.int .i64 (7),.int .i64 (7000+(i:Int))]) (by simp[results,Tryz.results8,go_sem, *]) rfl (C.out _ f.out)
                ·rw[zoX q2]at a8;rw[if_neg q2]at l;clear q2;go_wp2_with fail
                 haveI inhB:∀w:World,Inhabited (zq w):=fun w=>⟨⟨w,zof _ _⟩⟩
                 refine zi (by kernel_rfl) (by kernel_rfl) ?_
                 repeat (go_big_quiet_step (first|(go_at_call 26;exact zt _ (a8.out _))))
                 refine wpQuiet_nil ?_;intro wq W;obtain⟨⟨_,H⟩,N⟩:=W;subst N;have D:=hid (zh D.out H);have HN:=hid (kC b4.out l.out);clear H a8 b3 e9;go_wp2;go_roundw
                 case rel=>exact⟨i+1,by omega,by go_num,HN,D⟩
                 case measure=>simp[intOf];omega
               ·rw[zoX q1]at a1;rw[if_neg q1]at l;clear q1;go_wp2_with fail
                haveI inhB:∀w:World,Inhabited (zq w):=fun w=>⟨⟨w,zof _ _⟩⟩
                refine zi (by kernel_rfl) (by kernel_rfl) ?_
                repeat (go_big_quiet_step (first|(go_at_call 29;exact zT _ (a1.out _))))
                refine wpQuiet_nil ?_;intro wq W;obtain⟨⟨_,H⟩,N⟩:=W;subst N;have D:=hid (zh O.out H);clear H a1 d6 b8 d3 d2 d0 c7 e0;have C:Hid (∀w',Below w.heap.size w w'->zI d (zO d.p) w (.returned (.agg #[.int .i64 (1),.int .i64 (7000+(i:Int))])) w'):=fun w' h=>⟨_,_,ju (k:=6) (n:=i) (by decide) P6.out f0.out o b4.out l.out (by decide) (by omega),rfl,h⟩
                go_wp2_with fail
                refine(zA _ _ _).mono ?_;rintro e m ⟨rfl,b⟩;obtain⟨T,V,R,U,B⟩:=A.out m (zh D.out b);have f:=hid (t.out m (.int .i64 (1)) (.int .i64 (7000+(i:Int))) (zh D.out b));clear b;go_wp2;exact bodyPost_ret (v:=.agg #[.int .i64 (1),.int .i64 (7000+(i:Int))]) (by simp[results,Tryz.results8,go_sem, *]) rfl (C.out _ f.out)
              ·have P:¬(i:Int)<(d.out.n:Int):=by omega
               have P7:Hid (∀j,j<7->yE d (zO d.p) j):=qy (k:=6) P6.out f0.out (fun j M=>b4.out j (by have a7:j<d.out.n:=M;omega))
               clear b4;have C:Hid (∀w',Below w.heap.size w w'->zI d (zO d.p) w (.returned (.agg #[.int .i64 0,.int .i64 0])) w'):=fun w' h=>⟨0,0,.inr ⟨P7.out,rfl,rfl⟩,rfl,h⟩
               obtain⟨T,V,R,U,B⟩:=A.out wr O.out;have f:=hid (t.out wr (.int .i64 0) (.int .i64 0) O.out);go_wp2;exact bodyPost_ret (v:=.agg #[.int .i64 0,.int .i64 0]) (by simp[results,Tryz.results8,go_sem, *]) rfl (C.out _ f.out)
theorem zj8(d:PlanD)(w:World)(a:d.lie w)(b:d.p.little):Calls Tryz.prog 8 #[d.v] w (zI d (zO d.p) w):=zrO d w a b.mid
end Go.Proofs.YtbmcgbmegcpgnaaGreat
