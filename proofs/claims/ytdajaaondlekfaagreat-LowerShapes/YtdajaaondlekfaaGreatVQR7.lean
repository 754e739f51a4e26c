import Derived.Test.YtdajaaondlekfaaGreatVQR6
import Derived.Test.YtdajaaondlekfaaGreatG14
import Derived.Deep.CutBlock
import Derived.Deep.DeepCutAuto
set_option maxHeartbeats 32000000
set_option maxRecDepth 20000
set_option linter.unusedSimpArgs false
namespace Go.Proofs.YtdajaaondlekfaaGreat
open Go.RowKit
theorem zf9{α β :Type}{l:List α}{f: α->β}{n:Nat}{x: α}(h:l[n]?=some x)(y: β):(l.map f).getD n y=f x:=by
 rw[zoi,zoy,h];rfl
theorem zcP(w:World)(x y:Int)(b:(Lit.int .i64 x).wf=true)(c:(Lit.int .i64 y).wf=true):Has .i64 (w.alloc (.cells #[.int .i64 x,.int .i64 y] 3)) (some ⟨w.heap.size,0,none⟩) 2 [x,y]:=by
 refine⟨rfl,?_,.inr ⟨w.heap.size,0,rfl,by simp,fun i hi=>?_⟩⟩
 ·intro n a;simp only[zoD,zoA,or_false]at a;rcases a with rfl|rfl
  ·exact b
  ·exact c
 ·rcases(show i=0\/i=1 by omega)with rfl|rfl
  ·simp
  ·simp
theorem zik(d:PlanD)(w:World)(S:d.lie w)(k:Nat)(hk:k<d.nodes.n)(x:NodeD)(hx:d.ns[k]?=some x):
 Calls Tryz.prog 63 #[d.v,.int .i64 k] w fun e w'=>e=.returned (.int .i64 (yG d.p k x.p))/\Below w.heap.size w w':=by
 have G:∀o,Below w.heap.size w (w.alloc o):=fun o=>ze (zof _ _)
 obtain⟨g,off,x',ea,Z,⟨c0,_⟩,⟨c1,_⟩,⟨c2,_⟩,⟨c3,w3⟩,⟨c4,V⟩,T⟩:=zu S.ns hk;obtain rfl:x=x':=by rw[hx]at Z;exact zoq Z
 have d1:Hid (d.p.ts.length=d.tabs.n):=by show _=_;simp[PlanD.p,S.ts.1]
 have b5:Hid (d.p.hs.length=d.heads.n):=by show _=_;simp[PlanD.p,S.hs.1]
 have a9:Hid (d.p.al.length=d.acts.n):=by show _=_;simp[PlanD.p,S.al.1]
 have b:Hid (yG d.p k x.p=or2 (xN d.p x.p) (zn ((if x.kind=3\/x.kind=4 then[x.yes,x.no]else[x.yes]).map (zP d.nodes.n k)))):=by
  show yG d.p k x.p=_;unfold yG;rw[show d.p.ns.length=d.nodes.n by simp[PlanD.p,S.ns.1]]
  rfl
 have Q:Hid (∀w',Below w.heap.size w w'->Calls Tryz.prog 102 #[d.v,.slice x.e.a x.e.n x.e.c,.slice none 0 0] w' fun e Y=>e=.returned (.int .i64 (xl d.p x.es []))/\Below w'.heap.size w' Y):=fun w' h=>zeX d x.e x.es none 0 0 [] w' (S.step h) (T.step PushD.keeps h) (zW _ _)
 have M:Hid (∀w',Calls Tryz.prog 64 #[d.v,.int .i64 x.n] w' fun e Y=>e=.returned (.bool (decide (0<=x.n/\x.n<(d.heads.n:Int))))/\Below w'.heap.size w' Y):=fun w'=>qE d x.n w'
 have d6:(k:Int)<(d.nodes.n:Int):=by omega
 have k0:∀o,(w.alloc o).cell? ⟨g,off+k*5,none⟩=some (.int .i64 x.kind):=fun o=>za c0 (G o)
 have c9:∀o,(w.alloc o).cell? ⟨g,off+k*5+1,none⟩=some (.int .i64 x.n):=fun o=>za c1 (G o)
 have c8:∀o,(w.alloc o).cell? ⟨g,off+k*5+2,none⟩=some (.slice x.e.a x.e.n x.e.c):=fun o=>za c2 (G o)
 have b8:∀o,(w.alloc o).cell? ⟨g,off+k*5+3,none⟩=some (.int .i64 x.yes):=fun o=>za c3 (G o)
 have b7:∀o,(w.alloc o).cell? ⟨g,off+k*5+4,none⟩=some (.int .i64 x.no):=fun o=>za c4 (G o)
 obtain⟨A,hW⟩:∃A,A=(((w.alloc (.cells #[.slice d.heads.a d.heads.n d.heads.c,.slice d.mta.a d.mta.n d.mta.c,.slice d.states.a d.states.n d.states.c,.slice d.acts.a d.acts.n d.acts.c,.slice d.tabs.a d.tabs.n d.tabs.c,.slice (some ⟨g,off,none⟩) d.nodes.n d.nodes.c,.slice d.out.a d.out.n d.out.c] 29)).alloc (.cells #[.int .i64 x.kind,.int .i64 x.n,.slice x.e.a x.e.n x.e.c,.int .i64 x.yes,.int .i64 x.no] 71)).alloc (.cells #[.int .i64 x.yes] 3)):=⟨_,rfl⟩;obtain⟨b0,h0⟩:∃b0,b0=w.heap.size:=⟨_,rfl⟩;obtain⟨b1,h1⟩:∃b1,b1=w.heap.size+1:=⟨_,rfl⟩;obtain⟨b2,h2⟩:∃b2,b2=w.heap.size+1+1:=⟨_,rfl⟩;have z0:A.cell? ⟨b0,0,none⟩=some (.slice d.heads.a d.heads.n d.heads.c):=by rw[hW,h0];exact(zoe _ _ _ (by simp;omega)).trans ((zoe _ _ _ (by simp)).trans ((zod _ _ _ _ rfl).trans rfl))
 have z1:A.cell? ⟨b0,1,none⟩=some (.slice d.mta.a d.mta.n d.mta.c):=by rw[hW,h0];exact(zoe _ _ _ (by simp;omega)).trans ((zoe _ _ _ (by simp)).trans ((zod _ _ _ _ rfl).trans rfl))
 have z2:A.cell? ⟨b0,2,none⟩=some (.slice d.states.a d.states.n d.states.c):=by rw[hW,h0];exact(zoe _ _ _ (by simp;omega)).trans ((zoe _ _ _ (by simp)).trans ((zod _ _ _ _ rfl).trans rfl))
 have z3:A.cell? ⟨b0,3,none⟩=some (.slice d.acts.a d.acts.n d.acts.c):=by rw[hW,h0];exact(zoe _ _ _ (by simp;omega)).trans ((zoe _ _ _ (by simp)).trans ((zod _ _ _ _ rfl).trans rfl))
 have z4:A.cell? ⟨b0,4,none⟩=some (.slice d.tabs.a d.tabs.n d.tabs.c):=by rw[hW,h0];exact(zoe _ _ _ (by simp;omega)).trans ((zoe _ _ _ (by simp)).trans ((zod _ _ _ _ rfl).trans rfl))
 have z5:A.cell? ⟨b0,5,none⟩=some (.slice (some ⟨g,off,none⟩) d.nodes.n d.nodes.c):=by rw[hW,h0];exact(zoe _ _ _ (by simp;omega)).trans ((zoe _ _ _ (by simp)).trans ((zod _ _ _ _ rfl).trans rfl))
 have z6:A.cell? ⟨b0,6,none⟩=some (.slice d.out.a d.out.n d.out.c):=by rw[hW,h0];exact(zoe _ _ _ (by simp;omega)).trans ((zoe _ _ _ (by simp)).trans ((zod _ _ _ _ rfl).trans rfl))
 have y0:A.cell? ⟨b1,0,none⟩=some (.int .i64 x.kind):=by rw[hW,h1];exact(zoe _ _ _ (by simp)).trans ((zod _ _ _ _ (by simp)).trans rfl)
 have y1:A.cell? ⟨b1,1,none⟩=some (.int .i64 x.n):=by rw[hW,h1];exact(zoe _ _ _ (by simp)).trans ((zod _ _ _ _ (by simp)).trans rfl)
 have y2:A.cell? ⟨b1,2,none⟩=some (.slice x.e.a x.e.n x.e.c):=by rw[hW,h1];exact(zoe _ _ _ (by simp)).trans ((zod _ _ _ _ (by simp)).trans rfl)
 have y3:A.cell? ⟨b1,3,none⟩=some (.int .i64 x.yes):=by rw[hW,h1];exact(zoe _ _ _ (by simp)).trans ((zod _ _ _ _ (by simp)).trans rfl)
 have y4:A.cell? ⟨b1,4,none⟩=some (.int .i64 x.no):=by rw[hW,h1];exact(zoe _ _ _ (by simp)).trans ((zod _ _ _ _ (by simp)).trans rfl)
 have HB:Hid (Below w.heap.size w A):=by rw[hW];exact ze (ze (ze (zof _ _)))
 have B:Hid (Has .i64 A (some ⟨b2,0,none⟩) 1 [x.yes]):=by show Has _ _ _ _ _;rw[hW,h2];simpa using qi ((w.alloc (.cells #[.slice d.heads.a d.heads.n d.heads.c,.slice d.mta.a d.mta.n d.mta.c,.slice d.states.a d.states.n d.states.c,.slice d.acts.a d.acts.n d.acts.c,.slice d.tabs.a d.tabs.n d.tabs.c,.slice (some ⟨g,off,none⟩) d.nodes.n d.nodes.c,.slice d.out.a d.out.n d.out.c] 29)).alloc (.cells #[.int .i64 x.kind,.int .i64 x.n,.slice x.e.a x.e.n x.e.c,.int .i64 x.yes,.int .i64 x.no] 71)) x.yes w3
 have EW:=hid hW;have E0:=hid h0;have E1:=hid h1;have E2:=hid h2;have b4:=hid S.al;have X:=hid w3;have a0:=hid V;unfold PlanD.v at Q M;rw[ea]at Q M;clear hW h0 h1 h2 S hx Z c0 c1 c2 c3 c4 T G w3 V;go_enter Tryz.func63,Tryz.ntmps63
 go_upto_block 0 with fail
 rw[<-EW.out,<-E2.out,<-E1.out,<-E0.out];clear EW E2 E1 E0;go_cut [6,7] (fun e tv wx=>∃(E:Int) (L:List Int) (la:Option Addr) (lc:Nat),e=.int .i64 E/\tv=.slice la L.length lc/\Hid (yG d.p k x.p=or2 E (zn (L.map (zP d.nodes.n k))))/\Hid (L.length<=2)/\Hid (Has .i64 wx la L.length L)/\Hid (Below A.heap.size A wx))
 case first=>
  by_cases I:x.kind=1
  ·have e1:(x.kind==1)=true:=by simpa using I
   rw[if_neg (by omega),show xN d.p x.p=xz d.tabs.n x.n from by unfold xN;rw[if_pos (show x.p.kind=1 from I),d1.out];rfl]at b
   clear Q M I;by_cases q1:x.n<0
   ·have f1:=zoY q1;have i:Hid (yG d.p k x.p=or2 1 (zn (([x.yes]:List Int).map (zP d.nodes.n k)))):=by show _=_;rw[b.out,show xz d.tabs.n x.n=1 from if_neg (by omega)]
    go_wp2;go_meet
    exact⟨1,[x.yes],_,_,rfl,rfl,i,(by decide:(1:Nat)<=2),B,zof _ _⟩
   have f1:=zoX q1;by_cases q2:(d.tabs.n:Int)<=x.n
   ·have f2:=zoY q2;have i:Hid (yG d.p k x.p=or2 1 (zn (([x.yes]:List Int).map (zP d.nodes.n k)))):=by show _=_;rw[b.out,show xz d.tabs.n x.n=1 from if_neg (by omega)]
    go_wp2;go_meet
    exact⟨1,[x.yes],_,_,rfl,rfl,i,(by decide:(1:Nat)<=2),B,zof _ _⟩
   ·have f2:=zoX q2;have i:Hid (yG d.p k x.p=or2 0 (zn (([x.yes]:List Int).map (zP d.nodes.n k)))):=by show _=_;rw[b.out,show xz d.tabs.n x.n=0 from if_pos (by omega)]
    go_wp2;go_meet
    exact⟨0,[x.yes],_,_,rfl,rfl,i,(by decide:(1:Nat)<=2),B,zof _ _⟩
  have e1:(x.kind==1)=false:=by simpa using I
  by_cases K:x.kind=2
  ·have e2:(x.kind==2)=true:=by simpa using K
   rw[if_neg (by omega),show xN d.p x.p=doC d.p x.n from by unfold xN;rw[if_neg (show¬x.p.kind=1 from I),if_pos (show x.p.kind=2 from K)];rfl]at b
   clear Q M I K;by_cases q1:x.n<0
   ·have f1:=zoY q1;have i:Hid (yG d.p k x.p=or2 1 (zn (([x.yes]:List Int).map (zP d.nodes.n k)))):=by show _=_;rw[b.out,show doC d.p x.n=1 from if_neg (by omega)]
    go_wp2;go_meet
    exact⟨1,[x.yes],_,_,rfl,rfl,i,(by decide:(1:Nat)<=2),B,zof _ _⟩
   have f1:=zoX q1;by_cases q2:(d.acts.n:Int)<=x.n
   ·have f2:=zoY q2;have i:Hid (yG d.p k x.p=or2 1 (zn (([x.yes]:List Int).map (zP d.nodes.n k)))):=by show _=_;rw[b.out,show doC d.p x.n=1 from if_neg (by rw[a9.out];omega)]
    go_wp2;go_meet
    exact⟨1,[x.yes],_,_,rfl,rfl,i,(by decide:(1:Nat)<=2),B,zof _ _⟩
   have f2:=zoX q2;obtain⟨jn,ejn⟩:∃jn:Nat,x.n=jn:=⟨x.n.toNat,by omega⟩
   obtain⟨ag,d2,y,b6,hy,⟨d0,_⟩,_,a7,_⟩:=zu (b4.out.step ActD.keeps HB.out) (show jn<d.acts.n by omega)
   have O:Hid (doC d.p x.n=if 0<y.w.n then 2 else 0):=by
    show doC d.p x.n=_;unfold doC;rw[if_pos (by rw[a9.out];omega),ejn,zov]
    have e:d.p.al.getD jn ⟨[],[]⟩=y.p:=zf9 hy _;rw[e,show y.p.ws.length=y.w.n from a7.1]
   rw[ejn]at y1 f1 f2;have a6:(jn:Int)<(d.acts.n:Int):=by omega
   have d5:¬((jn:Int)<0):=by omega
   rw[b6]at z3;clear hy a7 q1 q2 ejn;by_cases hz:0<y.w.n
   ·have b3:decide ((0:Int)<(y.w.n:Int))=true:=zoY (by omega)
    have i:Hid (yG d.p k x.p=or2 2 (zn (([x.yes]:List Int).map (zP d.nodes.n k)))):=by show _=_;rw[b.out,O.out,if_pos hz]
    clear O;go_wp2;go_meet
    exact⟨2,[x.yes],_,_,rfl,rfl,i,(by decide:(1:Nat)<=2),B,zof _ _⟩
   ·have b3:decide ((0:Int)<(y.w.n:Int))=false:=zoX (by omega)
    have i:Hid (yG d.p k x.p=or2 0 (zn (([x.yes]:List Int).map (zP d.nodes.n k)))):=by show _=_;rw[b.out,O.out,if_neg hz]
    clear O;go_wp2;go_meet
    exact⟨0,[x.yes],_,_,rfl,rfl,i,(by decide:(1:Nat)<=2),B,zof _ _⟩
  have e2:(x.kind==2)=false:=by simpa using K
  by_cases N:x.kind=3
  ·have e3:(x.kind==3)=true:=by simpa using N
   rw[if_pos (.inl N),show xN d.p x.p=xl d.p x.es []from by unfold xN;rw[if_neg (show¬x.p.kind=1 from I),if_neg (show¬x.p.kind=2 from K),if_pos (show x.p.kind=3 from N)];rfl]at b
   clear M I K N;have a4:=hid (Q.out A HB.out);generalize xl d.p x.es []=U at*;go_wp2_with fail
   refine a4.out.mono ?_;rintro e V ⟨rfl,r⟩;have v3:=za y3 r;have v4:=za y4 r;have C:=hid r;have J:=hid (zcP V x.yes x.no X.out a0.out);clear a4 Q r;go_wp2;go_meet
   exact⟨U,[x.yes,x.no],_,_,rfl,rfl,b,(by decide:(2:Nat)<=2),J,ze C.out⟩
  have e3:(x.kind==3)=false:=by simpa using N
  by_cases k4:x.kind=4
  ·have e4:(x.kind==4)=true:=by simpa using k4
   rw[if_pos (.inr k4),show xN d.p x.p=xz d.heads.n x.n from by unfold xN;rw[if_neg (show¬x.p.kind=1 from I),if_neg (show¬x.p.kind=2 from K),if_neg (show¬x.p.kind=3 from N),if_pos (show x.p.kind=4 from k4),b5.out];rfl]at b
   clear Q I K N k4;have H:=hid (M.out A);by_cases q1:0<=x.n/\x.n<(d.heads.n:Int)
   ·have i:Hid (yG d.p k x.p=or2 0 (zn (([x.yes,x.no]:List Int).map (zP d.nodes.n k)))):=by show _=_;rw[b.out,show xz d.heads.n x.n=0 from if_pos q1]
    rw[zoY q1]at H;clear q1;go_wp2_with fail
    refine H.out.mono ?_;rintro e V ⟨rfl,r⟩;have v3:=za y3 r;have v4:=za y4 r;have C:=hid r;have J:=hid (zcP V x.yes x.no X.out a0.out);clear H M r;go_wp2;go_meet
    exact⟨0,[x.yes,x.no],_,_,rfl,rfl,i,(by decide:(2:Nat)<=2),J,ze C.out⟩
   ·have i:Hid (yG d.p k x.p=or2 1 (zn (([x.yes,x.no]:List Int).map (zP d.nodes.n k)))):=by show _=_;rw[b.out,show xz d.heads.n x.n=1 from if_neg q1]
    rw[zoX q1]at H;clear q1;go_wp2_with fail
    refine H.out.mono ?_;rintro e V ⟨rfl,r⟩;have v3:=za y3 r;have v4:=za y4 r;have C:=hid r;have J:=hid (zcP V x.yes x.no X.out a0.out);clear H M r;go_wp2;go_meet
    exact⟨1,[x.yes,x.no],_,_,rfl,rfl,i,(by decide:(2:Nat)<=2),J,ze C.out⟩
  have e4:(x.kind==4)=false:=by simpa using k4
  have i:Hid (yG d.p k x.p=or2 5 (zn (([x.yes]:List Int).map (zP d.nodes.n k)))):=by
   show _=_;rw[b.out,if_neg (by omega),show xN d.p x.p=5 from by unfold xN;rw[if_neg (show¬x.p.kind=1 from I),if_neg (show¬x.p.kind=2 from K),if_neg (show¬x.p.kind=3 from N),if_neg (show¬x.p.kind=4 from k4)]]
  clear Q M I K N k4;go_wp2;go_meet
  exact⟨5,[x.yes],_,_,rfl,rfl,i,(by decide:(1:Nat)<=2),B,zof _ _⟩
 case rest=>
  obtain⟨a1,L,la,lc,rfl,rfl,a5,c6,a8,C⟩:=hcut;have c5:=hid HB.out;clear b B Q M y0 y1 y2 y3 y4 k0 c9 c8 b8 b7 z0 z1 z2 z3 z4 z6;have a2:Hid (yG d.p k x.p=if a1≠0 then a1 else zn ((L.drop 0).map (zP d.nodes.n k))):=a5
  obtain⟨m,em⟩:∃m,m=L.length:=⟨_,rfl⟩;have HM:=hid em;have d4:m<=2:=by rw[em];exact c6.out
  rw[<-em]at a8 ⊢;have a3:Hid (Below wc.heap.size wc wc):=zof _ _;have z5:=za z5 C.out;clear em a5;go_wp2;go_loopw [8,6] (fun q e wr=>∃(j:Nat) (E:Int),j<=m/\q=.int .i64 j/\e=.int .i64 E/\Hid (yG d.p k x.p=if E≠0 then E else zn ((L.drop j).map (zP d.nodes.n k)))/\Hid (Below wc.heap.size wc wr)) (fun q _ _=>m-(intOf q).toNat)
  case atStart=>exact⟨0,_,zon _,rfl,rfl,a2,a3⟩
  case round=>
   obtain⟨j,E,hj,rfl,rfl,s,u⟩:=hrel;clear a3 a2;have BW:=hid (zh (zh c5.out C.out) u.out);have z5:=za z5 u.out;by_cases b9:j<m
   ·have a6:(j:Int)<(m:Int):=by omega
    by_cases hE:E=0
    ·subst hE;obtain⟨wg,d3,y,rfl,hy,r0⟩:=xQ (a8.out.step u.out) b9;have D:=xU (f:=zP d.nodes.n k) hy;have R:=zm r0;have P:=zm z5;clear hy;rw[if_neg (by simp)]at s
     by_cases g1:y<0
     ·have f1:=zoY g1;have i:Hid (yG d.p k x.p=if(1:Int)≠0 then(1:Int)else zn ((L.drop (j+1)).map (zP d.nodes.n k))):=by show _=_;rw[s.out,D];rw[show zP d.nodes.n k y=1 from if_pos (.inl g1)]
      clear D s;go_wp2_with fail
      haveI inhB:∀w:World,Inhabited (zq w):=fun w=>⟨⟨w,zof _ _⟩⟩
      refine zi (by kernel_rfl) (by kernel_rfl) ?_
      repeat (go_big_quiet_step (fail))
      refine wpQuiet_nil ?_;intro wq F;obtain⟨⟨_,l⟩,t⟩:=F;subst t;have W:=hid (zh u.out l);have r0:=za r0 l;clear l u BW R P;go_wp2;go_roundw
      case rel=>exact⟨j+1,1,by omega,by go_num,rfl,i,W⟩
      case measure=>simp[intOf];omega
     have f1:=zoX g1;by_cases g2:(d.nodes.n:Int)<y
     ·have f2:=zoY g2;have i:Hid (yG d.p k x.p=if(1:Int)≠0 then(1:Int)else zn ((L.drop (j+1)).map (zP d.nodes.n k))):=by show _=_;rw[s.out,D];rw[show zP d.nodes.n k y=1 from if_pos (.inr g2)]
      clear D s;go_wp2_with fail
      haveI inhB:∀w:World,Inhabited (zq w):=fun w=>⟨⟨w,zof _ _⟩⟩
      refine zi (by kernel_rfl) (by kernel_rfl) ?_
      repeat (go_big_quiet_step (fail))
      refine wpQuiet_nil ?_;intro wq F;obtain⟨⟨_,l⟩,t⟩:=F;subst t;have W:=hid (zh u.out l);have r0:=za r0 l;clear l u BW R P;go_wp2;go_roundw
      case rel=>exact⟨j+1,1,by omega,by go_num,rfl,i,W⟩
      case measure=>simp[intOf];omega
     have f2:=zoX g2;have n12:¬(y<0\/(d.nodes.n:Int)<y):=by omega
     by_cases g3:y<=(k:Int)
     ·have f3:=zoY g3;have i:Hid (yG d.p k x.p=if(11:Int)≠0 then(11:Int)else zn ((L.drop (j+1)).map (zP d.nodes.n k))):=by show _=_;rw[s.out,D];rw[show zP d.nodes.n k y=11 from by unfold zP;rw[if_neg n12,if_pos g3]]
      clear D s n12;go_wp2_with fail
      haveI inhB:∀w:World,Inhabited (zq w):=fun w=>⟨⟨w,zof _ _⟩⟩
      refine zi (by kernel_rfl) (by kernel_rfl) ?_
      repeat (go_big_quiet_step (fail))
      refine wpQuiet_nil ?_;intro wq F;obtain⟨⟨_,l⟩,t⟩:=F;subst t;have W:=hid (zh u.out l);have r0:=za r0 l;clear l u BW R P;go_wp2;go_roundw
      case rel=>exact⟨j+1,11,by omega,by go_num,rfl,i,W⟩
      case measure=>simp[intOf];omega
     ·have f3:=zoX g3;have i:Hid (yG d.p k x.p=if(0:Int)≠0 then(0:Int)else zn ((L.drop (j+1)).map (zP d.nodes.n k))):=by show _=_;rw[s.out,D];rw[show zP d.nodes.n k y=0 from by unfold zP;rw[if_neg n12,if_neg g3]]
      clear D s n12;go_wp2_with fail
      haveI inhB:∀w:World,Inhabited (zq w):=fun w=>⟨⟨w,zof _ _⟩⟩
      refine zi (by kernel_rfl) (by kernel_rfl) ?_
      repeat (go_big_quiet_step (fail))
      refine wpQuiet_nil ?_;intro wq F;obtain⟨⟨_,l⟩,t⟩:=F;subst t;have W:=hid (zh u.out l);have r0:=za r0 l;clear l u BW R P;go_wp2;go_roundw
      case rel=>exact⟨j+1,0,by omega,by go_num,rfl,i,W⟩
      case measure=>simp[intOf];omega
    ·have bE:(E==0)=false:=by simpa using hE
     have i:Hid (yG d.p k x.p=E):=by show _=_;rw[s.out,if_pos hE]
     clear s hE;go_wp2;go_ret;exact⟨by rw[i.out];rfl,BW.out⟩
   ·have a6:¬(j:Int)<(m:Int):=by omega
    have ej:j=m:=by omega
    have i:Hid (yG d.p k x.p=E):=by
     show _=_;rw[s.out,ej,HM.out,zoP];by_cases h:E≠0
     ·rw[if_pos h]
     ·rw[if_neg h];show(0:Int)=E;omega
    clear s ej;go_wp2;go_ret;exact⟨by rw[i.out];rfl,BW.out⟩
end Go.Proofs.YtdajaaondlekfaaGreat
