import Derived.Test.YtdajaaondlekfaaGreatVWOf
set_option maxHeartbeats 16000000
set_option maxRecDepth 20000
set_option linter.unusedSimpArgs false
namespace Go.Proofs.YtdajaaondlekfaaGreat
open Go.RowKit
theorem ziM{p:PPlan}(h:(zD p).1=0){L:List Wk.Way}(c:L=⟨0,0,0⟩::L.flatMap (Wk.succW (yj p h) (jC p)))(a:∀y∈L,y.st<=p.ss.length):∀y∈L,y.tk<2^6/\y.by_<=256:=by
 have d:(p.ss.length:Int)<=8:=(zB h 2 (by decide)).2.1
 intro y b;have hw:=(Wk.ways_are (qK h) c a y.st y.tk y.by_).1 b;have:=Wk.wy_small (K:=6) (Z:=32) (zeg h) (zeh h) hw;have hs:=a y b;exact⟨this.1,by omega⟩
structure Stp (g o lg l t z : Nat) (wr w' : World) (s : Wk.Sets) : Prop where
 but : But g wr w'
 far : ∀ p, p < o \/ o + 5 <= p -> w'.cell? ⟨g, p, none⟩ = wr.cell? ⟨g, p, none⟩
 five : Five w' g o s
 fz : ∀ i, w'.frozen? ⟨g, i, none⟩ = wr.frozen? ⟨g, i, none⟩
 q1 : w'.cell? ⟨lg, l + 1, none⟩ = some (.int .u64 (t : Int))
 q2 : w'.cell? ⟨lg, l + 2, none⟩ = some (.int .i64 (z : Int))
 ne : lg ≠ g
theorem Stp.drew{g o a l t z:Nat}{wr w':World}{s:Wk.Sets}(h:Stp g o a l t z wr w' s):Stp g o a l t z wr w'.drew s:=
 ⟨⟨h.but.low.drew,h.but.up⟩,h.far,⟨h.five.c0,h.five.c1,h.five.c2,h.five.c3,h.five.c4⟩,h.fz,h.q1,h.q2,h.ne⟩
theorem Stp.put{g o a l t z:Nat}{wr w':World}{s b:Wk.Sets}{p:Nat}{v:Value}(h:Stp g o a l t z wr w' s)(e:o<=p/\p<o+5)(d:Five (w'.setCell ⟨g,p,none⟩ v) g o b):Stp g o a l t z wr (w'.setCell ⟨g,p,none⟩ v) b:=
 ⟨h.but.trans set_but,fun q c=>(zp rfl (by omega)).trans (h.far q c),d,fun i=>by rw[World.frozen?_setCell];exact h.fz i,set_but.cell h.ne h.q1,set_but.cell h.ne h.q2,h.ne⟩
theorem Stp.put0{g o a l t z:Nat}{wr w':World}{s:Wk.Sets}(h:Stp g o a l t z wr w' s)(v:Nat):Stp g o a l t z wr (w'.setCell ⟨g,o,none⟩ (.int .u64 (v:Int))) ⟨v,s.may,s.least,s.most,s.there⟩:=
 h.put ⟨zos _,by omega⟩ ⟨zot _ _ _ h.five.c0,zp h.five.c1 (by omega),zp h.five.c2 (by omega),zp h.five.c3 (by omega),zp h.five.c4 (by omega)⟩
theorem Stp.put1{g o a l t z:Nat}{wr w':World}{s:Wk.Sets}(h:Stp g o a l t z wr w' s)(v:Nat):Stp g o a l t z wr (w'.setCell ⟨g,o+1,none⟩ (.int .u64 (v:Int))) ⟨s.must,v,s.least,s.most,s.there⟩:=
 h.put ⟨by omega,by omega⟩ ⟨zp h.five.c0 (by omega),zot _ _ _ h.five.c1,zp h.five.c2 (by omega),zp h.five.c3 (by omega),zp h.five.c4 (by omega)⟩
theorem Stp.put2{g o a l t z:Nat}{wr w':World}{s:Wk.Sets}(h:Stp g o a l t z wr w' s)(v:Nat):Stp g o a l t z wr (w'.setCell ⟨g,o+2,none⟩ (.int .i64 (v:Int))) ⟨s.must,s.may,v,s.most,s.there⟩:=
 h.put ⟨by omega,by omega⟩ ⟨zp h.five.c0 (by omega),zp h.five.c1 (by omega),zot _ _ _ h.five.c2,zp h.five.c3 (by omega),zp h.five.c4 (by omega)⟩
theorem Stp.put3{g o a l t z:Nat}{wr w':World}{s:Wk.Sets}(h:Stp g o a l t z wr w' s)(v:Nat):Stp g o a l t z wr (w'.setCell ⟨g,o+3,none⟩ (.int .i64 (v:Int))) ⟨s.must,s.may,s.least,v,s.there⟩:=
 h.put ⟨by omega,by omega⟩ ⟨zp h.five.c0 (by omega),zp h.five.c1 (by omega),zp h.five.c2 (by omega),zot _ _ _ h.five.c3,zp h.five.c4 (by omega)⟩
theorem Stp.put4{g o a l t z:Nat}{wr w':World}{s:Wk.Sets}(h:Stp g o a l t z wr w' s)(v:Bool):Stp g o a l t z wr (w'.setCell ⟨g,o+4,none⟩ (.bool v)) ⟨s.must,s.may,s.least,s.most,v⟩:=
 h.put ⟨by omega,by omega⟩ ⟨zp h.five.c0 (by omega),zp h.five.c1 (by omega),zp h.five.c2 (by omega),zp h.five.c3 (by omega),zot _ _ _ h.five.c4⟩
theorem zkV{w:World}{g o c l t z:Nat}{v0 v1 v2 v3 v4:Value}(a:c≠g)(h:w.cell? ⟨c,l+1,none⟩=some (.int .u64 (t:Int))/\w.cell? ⟨c,l+2,none⟩=some (.int .i64 (z:Int))):
 (((((w.setCell ⟨g,o,none⟩ v0).setCell ⟨g,o+1,none⟩ v1).setCell ⟨g,o+2,none⟩ v2).setCell ⟨g,o+3,none⟩ v3).setCell ⟨g,o+4,none⟩ v4).drew.cell? ⟨c,l+1,none⟩=some (.int .u64 (t:Int))/\(((((w.setCell ⟨g,o,none⟩ v0).setCell ⟨g,o+1,none⟩ v1).setCell ⟨g,o+2,none⟩ v2).setCell ⟨g,o+3,none⟩ v3).setCell ⟨g,o+4,none⟩ v4).drew.cell? ⟨c,l+2,none⟩=some (.int .i64 (z:Int)):=by
 have b:But g w (((((w.setCell ⟨g,o,none⟩ v0).setCell ⟨g,o+1,none⟩ v1).setCell ⟨g,o+2,none⟩ v2).setCell ⟨g,o+3,none⟩ v3).setCell ⟨g,o+4,none⟩ v4):=set_but.trans (set_but.trans (set_but.trans (set_but.trans set_but)));have d:=b.cell a h.1;have h2:=b.cell a h.2;generalize((((w.setCell ⟨g,o,none⟩ v0).setCell ⟨g,o+1,none⟩ v1).setCell ⟨g,o+2,none⟩ v2).setCell ⟨g,o+3,none⟩ v3).setCell ⟨g,o+4,none⟩ v4=w' at d h2 ⊢;exact⟨d,h2⟩
theorem zgu(d:PlanD)(w:World)(t:d.lie w)(hs:d.p.little)(m:(zD d.p).1≠0):Calls Tryz.prog 14 #[d.v] w (yR d.p w):=by
 obtain⟨j,hW⟩:∃j,j=((w.alloc (.cells #[.slice d.heads.a d.heads.n d.heads.c,.slice d.mta.a d.mta.n d.mta.c,.slice d.states.a d.states.n d.states.c,.slice d.acts.a d.acts.n d.acts.c,.slice d.tabs.a d.tabs.n d.tabs.c,.slice d.nodes.a d.nodes.n d.nodes.c,.slice d.out.a d.out.n d.out.c] 29)).alloc (.cells #[.int .i64 0,.int .i64 0] 34)):=⟨_,rfl⟩;obtain⟨s,es⟩:∃s,s=w.heap.size:=⟨_,rfl⟩;obtain⟨f,ef⟩:∃f,f=w.heap.size+1:=⟨_,rfl⟩;have l:Hid (WlkAt d w j s f):=by rw[hW,es,ef];exact zaS d w
 have q:Hid (Below w.heap.size w j):=by rw[hW];exact ze (ze (zof _ _))
 have i:=hid (zc4 d j (t.step q.out) hs);have y:Hid (∀w',Below w.heap.size w w'->yR d.p w (.returned (.tuple #[.slice none 0 0,.agg #[.int .i64 (zD d.p).1,.int .i64 (zD d.p).2]])) w'):=fun w' h=>⟨_,_,none,0,0,rfl,.inl ⟨m,rfl,rfl⟩,fun _=>⟨rfl,rfl,rfl⟩,fun E=>absurd E m,h⟩
 have F:((zD d.p).1 !=0)=true:=by rw[bne_iff_ne];exact m
 have u:=hid hW;have x:=hid es;have B:=hid ef;clear t hs m hW es ef;generalize(zD d.p).1=C at*;generalize(zD d.p).2=A at*;go_enter Tryz.func14,Tryz.ntmps14
 go_wp2_with fail
 rw[<-u.out,<-B.out,<-x.out];refine i.out.mono ?_;rintro e r ⟨rfl,g⟩;clear i u x B;have b:=hid (l.out.step g);have k:=hid (zh q.out g);have c0:=b.out.f0;have c1:=b.out.f1;have z0:=b.out.fz 0;have z1:=b.out.fz 1;have D:f<r.heap.size:=b.out.fl;have G:Hid (∀o,yR d.p w (.returned (.tuple #[.slice none 0 0,.agg #[.int .i64 C,.int .i64 A]])) (((r.setCell ⟨f,0,none⟩ (.int .i64 C)).setCell ⟨f,1,none⟩ (.int .i64 A)).alloc o).drew):=fun o=>y.out _ (ze ((k.out.setCell (p:=⟨f,0,none⟩) l.out.wf _).setCell (p:=⟨f,1,none⟩) l.out.wf _)).drew
 clear l q b y k g;go_wp2_with fail
 go_region
 all_goals
  go_wp2;exact bodyPost_ret (v:=.tuple #[.slice none 0 0,.agg #[.int .i64 C,.int .i64 A]]) (by simp[results,Tryz.results14,go_sem, *]) rfl (G.out _)
theorem zfv(d:PlanD)(w:World)(hl:d.lie w)(hs:d.p.little)(hc:(zD d.p).1=0):Calls Tryz.prog 14 #[d.v] w (yR d.p w):=by
 obtain⟨W2,hW⟩:∃W2,W2=((w.alloc (.cells #[.slice d.heads.a d.heads.n d.heads.c,.slice d.mta.a d.mta.n d.mta.c,.slice d.states.a d.states.n d.states.c,.slice d.acts.a d.acts.n d.acts.c,.slice d.tabs.a d.tabs.n d.tabs.c,.slice d.nodes.a d.nodes.n d.nodes.c,.slice d.out.a d.out.n d.out.c] 29)).alloc (.cells #[.int .i64 0,.int .i64 0] 34)):=⟨_,rfl⟩;obtain⟨s,es⟩:∃s,s=w.heap.size:=⟨_,rfl⟩;obtain⟨f,ef⟩:∃f,f=w.heap.size+1:=⟨_,rfl⟩;have HA:Hid (WlkAt d w W2 s f):=by rw[hW,es,ef];exact zaS d w
 have HB:Hid (Below w.heap.size w W2):=by rw[hW];exact ze (ze (zof _ _))
 have l5:=hid (zc4 d W2 (hl.step HB.out) hs);have en:d.p.ss.length=d.states.n:=by simp[PlanD.p,hl.ss.1]
 have h9:d.states.n<=8:=by have:(d.p.ss.length:Int)<=8:=(zB hc 2 (by decide)).2.1;omega
 obtain⟨m,hm⟩:∃m,m=d.states.n+1:=⟨_,rfl⟩;obtain⟨i0,hi,l4,c5,a5⟩:=info_parts Tryz.infoRSets;have f6:IntKind.i64.wrap ((d.states.n:Int)+1)=(d.states.n:Int)+1:=zX _ (by omega) (by omega)
 have f8:∀W:World,(Instr.makeSlice 72 (.int .i64 ((d.states.n:Int)+1)) (.int .i64 ((d.states.n:Int)+1))).run Tryz.prog W=.ok (.slice (some ⟨W.heap.size,0,none⟩) m m) (W.alloc (.cells (zan m) 77)):=fun W=>by
  have h:=run_make (P:=Tryz.prog) W 72 77 i0 _ Tryz.underlying72 hi l4 .i64 .i64 ((d.states.n:Int)+1) ((d.states.n:Int)+1) (by omega) (by omega) (by rw[a5];omega) (by omega)
  rw[show((d.states.n:Int)+1).toNat=m by omega,c5]at h
  exact h
 have j6:=hid f8;have j5:=hid f6;have EW:=hid hW;have ES:=hid es;have EF:=hid ef;have HL:=hid hl;have HC:=hid hc;have EN:=hid en;have k5:=hid h9;have HM:=hid hm;clear hl hs hc hW es ef hi l4 c5 a5 en h9 hm f8 f6;go_enter Tryz.func14,Tryz.ntmps14
 go_wp2_with fail
 rw[<-EW.out,<-EF.out,<-ES.out];refine l5.out.mono ?_;rintro e w1 ⟨rfl,k8⟩;rw[HC.out];clear l5 EW ES EF;generalize(zD d.p).2=A;obtain⟨W3,hW3⟩:∃W3,W3=w1.alloc (.cells #[.int .i64 0,.int .i64 A] 34):=⟨_,rfl⟩;have b3:Below W2.heap.size W2 W3:=by rw[hW3];exact ze k8
 have i4:=hid (HA.out.step b3);have h7:=hid (zh HB.out b3);have i2:=hid hW3;clear k8 b3 HA HB hW3;have l7:=hid (zk5 d W3 (HL.out.step h7.out) HC.out);obtain⟨z0,z1,z2,z3,z4,z5,z6⟩:=i4.out.cs;rw[i2.out]at z0 z1 z2 z3 z4 z5 z6;go_wp2_with fail
 rw[<-i2.out];refine l7.out.mono ?_;rintro e w4 ⟨la,lc,L,rfl,hL,m0,g5,k6,j0⟩;clear l7 i2 z0 z1 z2 z3 z4 z5 z6;have e9:=hid (i4.out.step j0);have h8:=hid (zh h7.out j0);have HO:=hid k6;have e3:=hid hL;have e8:=hid m0;have g2:=hid g5;clear hL m0 g5 k6 j0 i4 h7;have z2:w4.cell? ⟨s,2,none⟩=some (.slice d.states.a d.states.n d.states.c):=e9.out.cs.2.2.1;have f8:=j6.out;have f6:=j5.out;have i8:Hid (∀y∈L,y.tk<2^6/\y.by_<=256):=ziM HC.out e3.out e8.out;obtain⟨lg,hla⟩:∃lg,la=some ⟨lg,0,none⟩:=by
  have h0:L[0]?=some ⟨0,0,0⟩:=by rw[e3.out];rfl
  obtain⟨lg,e,_⟩:=HO.out.at h0;exact⟨lg,e⟩
 subst hla;obtain⟨K,hK⟩:∃K,L.length=K:=⟨_,rfl⟩;rw[hK];have EK:=hid hK;clear hK;go_upto_region 6 with fail
 obtain⟨g,hg⟩:∃g,g=w4.heap.size:=⟨_,rfl⟩;obtain⟨W5,hW5⟩:∃W5,W5=w4.alloc (.cells (zan m) 77):=⟨_,rfl⟩;have b5:Below w4.heap.size w4 W5:=by rw[hW5];exact ze (zof _ _)
 have l9:Hid (Ahd g (qm d.states.n L 0) W5):=by
  have h:=zfw w4 m 77;rw[<-hW5,<-hg,HM.out]at h;exact h
 have k7:lg<w4.heap.size:=by
  have h0:L[0]?=some ⟨0,0,0⟩:=by rw[e3.out];rfl
  obtain⟨l2,e,_,h1,_⟩:=HO.out.at h0;cases e
  exact zog w4 _ h1
 have d9:lg≠g:=by omega
 have l1:Hid (∀wr,But g W5 wr->∀k y,L[k]?=some y->wr.cell? ⟨lg,k*3,none⟩=some (.int .i64 (y.st:Int))/\wr.cell? ⟨lg,k*3+1,none⟩=some (.int .u64 (y.tk:Int))/\wr.cell? ⟨lg,k*3+2,none⟩=some (.int .i64 (y.by_:Int))):=fun wr hb k y hy=>by
  obtain⟨l2,e,_,h1,h2,h3⟩:=HO.out.at hy;cases e
  exact⟨hb.cell d9 (za h1 b5),hb.cell d9 (za h2 b5),hb.cell d9 (za h3 b5)⟩
 have b8:=hid (e9.out.step b5);have l6:=hid (zh h8.out b5);have j3:Hid (w.heap.size<=g):=by rw[hg];exact h8.out.size
 have f9:Hid (f≠g):=by have:=e9.out.fl;show f≠g;omega
 have j1:Hid (s≠g):=by
  have h:s<w4.heap.size:=zog w4 _ z2;show s≠g;omega
 have g0:=hid d9;rw[<-hW5,<-hg];clear hW5 hg b5 k7 d9 e9 h8 HO z2 f8 f6 j6 j5;have l8:Hid (K<=512):=by
  have h1:=g2.out;have h2:=EN.out;have h3:=k5.out;have h4:=EK.out;have h5:2^(d.p.ss.length+1)<=2^9:=Nat.pow_le_pow_right (by decide) (by omega)
  show K<=512;omega
 go_wp2;go_loopw [7,8] (fun qv _ wr=>∃k:Nat,k<=K/\qv=.int .i64 k/\Hid (Ahd g (qm d.states.n L k) wr)/\Hid (But g W5 wr)) (fun qv _ _=>K-(intOf qv).toNat)
 case atStart=>exact⟨0,zon _,rfl,l9,But.refl _ _⟩
 case round=>
  obtain⟨k,hk,rfl,d7,G⟩:=hrel;by_cases k9:k<K
  ·obtain⟨y,hy⟩:∃y,L[k]?=some y:=⟨L[k]'(by rw[EK.out];exact k9),zoh _⟩
   have i3:=zol hy;have n2:(k:Int)<(K:Int):=by omega
   have n1:=l8.out;obtain⟨q0,q1,q2⟩:=l1.out wr G.out k y hy;have g7:=zkU (n:=d.states.n) i8.out k;have g1:y.st<d.states.n+1:=by have:=e8.out y i3;have:=EN.out;omega
   obtain⟨x,hx⟩:∃x,(qm d.states.n L k)[y.st]?=some x:=⟨(qm d.states.n L k)[y.st]'(by rw[g7.2];exact g1),zoh _⟩
   have m1:x.few:=g7.1 x (zol hx);have m6:(y.st:Int)<(m:Int):=by have:=HM.out;omega
   obtain⟨x0,x1,x2,x3,x4⟩:=d7.out.cs y.st x hx;have R:=hid d7.out.fz;have a4:Hid (∀w',But g wr w'->(∀p,p<y.st*5\/y.st*5+5<=p->w'.cell? ⟨g,p,none⟩=wr.cell? ⟨g,p,none⟩)->Five w' g (y.st*5) (Wk.joinS x ⟨y.tk,y.tk,y.by_,y.by_,true⟩)->(∀o,w'.frozen? ⟨g,o,none⟩=wr.frozen? ⟨g,o,none⟩)->Ahd g (qm d.states.n L (k+1)) w'):=fun w' hb far h5 hz=>by
    rw[ziL hy];have e:(qm d.states.n L k).getD y.st Wk.zero=x:=by rw[zoi,hx];rfl
    unfold Wk.addW;rw[e];exact zmc d7.out hx far h5 hz hb.size
   have b1:=hid (i8.out y i3);have c4:=hid m1;clear i3 g7 g1 hx m1 d7 hy;go_upto_region 10 with fail
   obtain⟨o,ho⟩:∃o,y.st*5=o:=⟨_,rfl⟩;rw[ho]at x0 x1 x2 x3 x4 a4 ⊢;clear ho;obtain⟨ys,t,z⟩:=y;dsimp only at q0 q1 q2 m6 a4 b1 ⊢;have f0:=R.out o;have f1:=R.out (o+1);have f2:=R.out (o+2);have f3:=R.out (o+3);have f4:=R.out (o+4);have n0:(k:Int)+1<=512:=by omega
   cases Y:x.there with
   |false=>
    obtain⟨W6,hW6⟩:∃W6,W6=(((((wr.setCell ⟨g,o,none⟩ (.int .u64 (t:Int))).setCell ⟨g,o+1,none⟩ (.int .u64 (t:Int))).setCell ⟨g,o+2,none⟩ (.int .i64 (z:Int))).setCell ⟨g,o+3,none⟩ (.int .i64 (z:Int))).setCell ⟨g,o+4,none⟩ (.bool true)).drew:=⟨_,rfl⟩;have S0:Stp g o lg (k*3) t z wr wr x:=⟨But.refl _ _,fun _ _=>rfl,⟨x0,x1,x2,x3,x4⟩,fun _=>rfl,q1,q2,g0.out⟩
    have S6:Stp g o lg (k*3) t z wr W6 ⟨t,t,z,z,true⟩:=by rw[hW6];exact(((((S0.put0 t).put1 t).put2 z).put3 z).put4 true).drew
    have e:Wk.joinS x ⟨t,t,z,z,true⟩=⟨t,t,z,z,true⟩:=by unfold Wk.joinS;rw[Y];rfl
    have RN:Hid (Ahd g (qm d.states.n L (k+1)) W6):=a4.out _ S6.but S6.far (by rw[e];exact S6.five) S6.fz
    have X:Hid (But g W5 W6):=G.out.trans S6.but;have c8:=hid hW6;rw[Y]at x4;clear a4 G R c4 b1 hW6 S0 S6 e;go_wp2_with fail
    go_region_held3 (fun w'=>w'.cell? ⟨lg,k*3+1,none⟩=some (.int .u64 (t:Int))/\w'.cell? ⟨lg,k*3+2,none⟩=some (.int .i64 (z:Int)))
     (first
      |(go_split_ands;with_reducible exact zkV g0.out ⟨by assumption,by assumption⟩)
      |go_keep)
     (fail)
    clear q0 q1 q2 x0 x1 x2 x3 x4 f0 f1 f2 f3 f4;rw[<-c8.out];clear c8;go_wp2;go_roundw
    case rel=>exact⟨k+1,by omega,by go_num,RN,X⟩
    case measure=>simp[intOf];omega
   |true=>
    have S0:Hid (Stp g o lg (k*3) t z wr wr x):=⟨But.refl _ _,fun _ _=>rfl,⟨x0,x1,x2,x3,x4⟩,fun _=>rfl,q1,q2,g0.out⟩
    have ej:Hid (Wk.joinS x ⟨t,t,z,z,true⟩=⟨x.must&&& t,x.may|||t,min x.least z,max x.most z,true⟩):=by show _=_;unfold Wk.joinS;rw[Y];rfl
    have l3:=kS x.must t (xm c4.out.mu) (xm b1.out.1);have m4:=zbt x.may t (xm c4.out.ma) (xm b1.out.1);rw[Y]at x4;go_wp2_with fail
    go_region
    obtain⟨W6,hW6⟩:∃W6,W6=(wr.setCell ⟨g,o,none⟩ (.int .u64 ((x.must&&& t:Nat):Int))).drew:=⟨_,rfl⟩;have S6:Hid (Stp g o lg (k*3) t z wr W6 ⟨x.must&&& t,x.may,x.least,x.most,x.there⟩):=by rw[hW6];exact(S0.out.put0 _).drew
    rw[<-hW6];clear hW6 S0 l3 x0 x1 x2 x3 x4 q1 q2 f0 f1 f2 f3 f4;have x1:=S6.out.five.c1;have q1:=S6.out.q1;have q2:=S6.out.q2;have f1:W6.frozen? ⟨g,o+1,none⟩=false:=(S6.out.fz _).trans (R.out _);dsimp only at x1;go_wp2_with fail
    go_region
    obtain⟨W7,hW7⟩:∃W7,W7=(W6.setCell ⟨g,o+1,none⟩ (.int .u64 ((x.may|||t:Nat):Int))).drew:=⟨_,rfl⟩
    have S7:Hid (Stp g o lg (k*3) t z wr W7 ⟨x.must&&& t,x.may|||t,x.least,x.most,x.there⟩):=by rw[hW7];exact(S6.out.put1 _).drew
    rw[<-hW7];clear hW7 S6 m4 x1 q1 q2 f1;have x2:=S7.out.five.c2;have q2:=S7.out.q2;have f2:W7.frozen? ⟨g,o+2,none⟩=false:=(S7.out.fz _).trans (R.out _);dsimp only at x2;go_wp2_with fail
    go_region
    have S8:Hid (Stp g o lg (k*3) t z wr W7.drew ⟨x.must&&& t,x.may|||t,x.least,x.most,x.there⟩):=S7.out.drew
    have x2:W7.drew.cell? ⟨g,o+2,none⟩=some (.int .i64 (x.least:Int)):=S8.out.five.c2;have q2:=S8.out.q2;have f2:W7.drew.frozen? ⟨g,o+2,none⟩=false:=(S8.out.fz _).trans (R.out _);generalize W7.drew=W8 at*;by_cases m9:(z:Int)<(x.least:Int)
    ·obtain⟨W9,hW9⟩:∃W9,W9=W8.setCell ⟨g,o+2,none⟩ (.int .i64 (z:Int)):=⟨_,rfl⟩;have S9:Hid (Stp g o lg (k*3) t z wr W9 ⟨x.must&&& t,x.may|||t,z,x.most,x.there⟩):=by rw[hW9];exact S8.out.put2 z
     have l0:=hid hW9;clear hW9 S8 S7;go_wp2_with fail
     rw[<-l0.out];clear l0 x2 q2 f2;have x3:W9.cell? ⟨g,o+3,none⟩=some (.int .i64 (x.most:Int)):=S9.out.five.c3;have q2:=S9.out.q2;go_region
     have O:Hid (Stp g o lg (k*3) t z wr W9.drew ⟨x.must&&& t,x.may|||t,z,x.most,x.there⟩):=S9.out.drew
     obtain⟨J,hW10⟩:∃J,J=W9.drew:=⟨_,rfl⟩;rw[<-hW10]at O ⊢;clear hW10 x3 q2;have x3:J.cell? ⟨g,o+3,none⟩=some (.int .i64 (x.most:Int)):=O.out.five.c3;have q2:=O.out.q2;have f3:J.frozen? ⟨g,o+3,none⟩=false:=(O.out.fz _).trans (R.out _);by_cases m5:(x.most:Int)<(z:Int)
     ·have F:Stp g o lg (k*3) t z wr (J.setCell ⟨g,o+3,none⟩ (.int .i64 (z:Int))) ⟨x.must&&& t,x.may|||t,z,z,x.there⟩:=O.out.put3 z
      have e:(⟨x.must&&& t,x.may|||t,z,z,x.there⟩:Wk.Sets)=Wk.joinS x ⟨t,t,z,z,true⟩:=by rw[ej.out,Y];simp only[Wk.Sets.mk.injEq,true_and,and_true];omega
      have RN:Hid (Ahd g (qm d.states.n L (k+1)) (J.setCell ⟨g,o+3,none⟩ (.int .i64 (z:Int)))):=a4.out _ F.but F.far (by rw[<-e];exact F.five) F.fz
      have X:Hid (But g W5 (J.setCell ⟨g,o+3,none⟩ (.int .i64 (z:Int)))):=G.out.trans F.but;clear F O S9 a4 G R c4 b1 e ej;go_wp2;go_roundw
      case rel=>exact⟨k+1,by omega,by go_num,RN,X⟩
      case measure=>simp[intOf];omega
     ·have F:Stp g o lg (k*3) t z wr (J) ⟨x.must&&& t,x.may|||t,z,x.most,x.there⟩:=O.out
      have e:(⟨x.must&&& t,x.may|||t,z,x.most,x.there⟩:Wk.Sets)=Wk.joinS x ⟨t,t,z,z,true⟩:=by rw[ej.out,Y];simp only[Wk.Sets.mk.injEq,true_and,and_true];omega
      have RN:Hid (Ahd g (qm d.states.n L (k+1)) (J)):=a4.out _ F.but F.far (by rw[<-e];exact F.five) F.fz
      have X:Hid (But g W5 (J)):=G.out.trans F.but;clear F O S9 a4 G R c4 b1 e ej;go_wp2;go_roundw
      case rel=>exact⟨k+1,by omega,by go_num,RN,X⟩
      case measure=>simp[intOf];omega
    ·obtain⟨W9,hW9⟩:∃W9,W9=W8:=⟨_,rfl⟩;have S9:Hid (Stp g o lg (k*3) t z wr W9 ⟨x.must&&& t,x.may|||t,x.least,x.most,x.there⟩):=by rw[hW9];exact S8.out
     subst hW9;clear S8 S7;go_wp2_with fail
     clear x2 q2 f2;have x3:W9.cell? ⟨g,o+3,none⟩=some (.int .i64 (x.most:Int)):=S9.out.five.c3;have q2:=S9.out.q2;go_region
     have O:Hid (Stp g o lg (k*3) t z wr W9.drew ⟨x.must&&& t,x.may|||t,x.least,x.most,x.there⟩):=S9.out.drew
     obtain⟨J,hW10⟩:∃J,J=W9.drew:=⟨_,rfl⟩;rw[<-hW10]at O ⊢;clear hW10 x3 q2;have x3:J.cell? ⟨g,o+3,none⟩=some (.int .i64 (x.most:Int)):=O.out.five.c3;have q2:=O.out.q2;have f3:J.frozen? ⟨g,o+3,none⟩=false:=(O.out.fz _).trans (R.out _);by_cases m5:(x.most:Int)<(z:Int)
     ·have F:Stp g o lg (k*3) t z wr (J.setCell ⟨g,o+3,none⟩ (.int .i64 (z:Int))) ⟨x.must&&& t,x.may|||t,x.least,z,x.there⟩:=O.out.put3 z
      have e:(⟨x.must&&& t,x.may|||t,x.least,z,x.there⟩:Wk.Sets)=Wk.joinS x ⟨t,t,z,z,true⟩:=by rw[ej.out,Y];simp only[Wk.Sets.mk.injEq,true_and,and_true];omega
      have RN:Hid (Ahd g (qm d.states.n L (k+1)) (J.setCell ⟨g,o+3,none⟩ (.int .i64 (z:Int)))):=a4.out _ F.but F.far (by rw[<-e];exact F.five) F.fz
      have X:Hid (But g W5 (J.setCell ⟨g,o+3,none⟩ (.int .i64 (z:Int)))):=G.out.trans F.but;clear F O S9 a4 G R c4 b1 e ej;go_wp2;go_roundw
      case rel=>exact⟨k+1,by omega,by go_num,RN,X⟩
      case measure=>simp[intOf];omega
     ·have F:Stp g o lg (k*3) t z wr (J) ⟨x.must&&& t,x.may|||t,x.least,x.most,x.there⟩:=O.out
      have e:(⟨x.must&&& t,x.may|||t,x.least,x.most,x.there⟩:Wk.Sets)=Wk.joinS x ⟨t,t,z,z,true⟩:=by rw[ej.out,Y];simp only[Wk.Sets.mk.injEq,true_and,and_true];omega
      have RN:Hid (Ahd g (qm d.states.n L (k+1)) (J)):=a4.out _ F.but F.far (by rw[<-e];exact F.five) F.fz
      have X:Hid (But g W5 (J)):=G.out.trans F.but;clear F O S9 a4 G R c4 b1 e ej;go_wp2;go_roundw
      case rel=>exact⟨k+1,by omega,by go_num,RN,X⟩
      case measure=>simp[intOf];omega
  ·obtain rfl:k=K:=by omega
   obtain⟨N,rfl⟩:∃N,N=wr:=⟨_,rfl⟩;have AE:qm d.states.n L k=APp d.p HC.out d.p.ss.length:=by
    rw[<-EK.out,zkT,<-EN.out];exact(Wk.both_end (qK HC.out) e3.out e8.out).symm
   have g6:Hid (Ahd g (APp d.p HC.out d.p.ss.length) N):=by rw[<-AE];exact d7.out
   have b9:Hid ((APp d.p HC.out d.p.ss.length).length=d.states.n+1):=by show _=_;rw[<-EN.out];exact(jS HC.out (zos _)).1
   have g4:Hid (∀y∈APp d.p HC.out d.p.ss.length,y.few):=fun y hy=>by have:=zei HC.out (m:=d.p.ss.length) (zos _) y hy;exact⟨this.1,this.2.1,by omega,by omega⟩
   obtain⟨S,hS⟩:∃S,S=APp d.p HC.out d.p.ss.length:=⟨_,rfl⟩;rw[<-hS]at g6 b9 g4;have ES:=hid hS;have j4:Hid (Below w.heap.size w N):=l6.out.trans (G.out.low.mono j3.out);have b0:Hid (N.cell? ⟨s,2,none⟩=some (.slice d.states.a d.states.n d.states.c)/\N.cell? ⟨f,0,none⟩=some (.int .i64 0)/\N.cell? ⟨f,1,none⟩=some (.int .i64 0)/\(∀o,N.frozen? ⟨f,o,none⟩=false)/\f<N.heap.size):=⟨G.out.cell j1.out b8.out.cs.2.2.1,G.out.cell f9.out b8.out.f0,G.out.cell f9.out b8.out.f1,fun o=>(G.out.frozen f9.out b8.out.fl).trans (b8.out.fz o),zom b8.out.fl G.out.size⟩
   have i1:Hid (w.heap.size<=f):=b8.out.wf;have M:Hid (∀w',Below N.heap.size N w'->w'.cell? ⟨s,2,none⟩=some (.slice d.states.a d.states.n d.states.c)/\w'.cell? ⟨f,0,none⟩=some (.int .i64 0)/\w'.cell? ⟨f,1,none⟩=some (.int .i64 0)/\w'.frozen? ⟨f,0,none⟩=false/\w'.frozen? ⟨f,1,none⟩=false/\f<w'.heap.size):=fun w' h=>⟨za b0.out.1 h,za b0.out.2.1 h,za b0.out.2.2.1 h,(h.frozen (p:=⟨f,0,none⟩) b0.out.2.2.2.2).trans (b0.out.2.2.2.1 0),(h.frozen (p:=⟨f,1,none⟩) b0.out.2.2.2.2).trans (b0.out.2.2.2.1 1),zom b0.out.2.2.2.2 h.size⟩
   have i5:Hid (∀w' x y,Below N.heap.size N w'->Below w.heap.size w ((w'.setCell ⟨f,0,none⟩ x).setCell ⟨f,1,none⟩ y)):=fun w' x y h=>((zh j4.out h).setCell (p:=⟨f,0,none⟩) i1.out _).setCell (p:=⟨f,1,none⟩) i1.out _
   have D:Hid (∀(j:Nat) (C:Int) (w':World) (u v:Value),j<d.states.n->C≠0->(∀i,i<j->yp d.p S i=0)->yp d.p S j=C->Below N.heap.size N w'->yR d.p w (.returned (.tuple #[.slice none 0 0,.agg #[.int .i64 C,.int .i64 (3000+(j:Int))]])) ((w'.setCell ⟨f,0,none⟩ u).setCell ⟨f,1,none⟩ v)):=fun j C w' u v hj hC hp hc hb=>⟨C,3000+(j:Int),none,0,0,rfl,.inr ⟨HC.out,.inl ⟨j,by rw[EN.out];exact hj,by rw[<-ES.out,hc];exact hC,by rw[<-ES.out];exact hp,by rw[<-ES.out,hc],rfl⟩⟩,fun _=>⟨rfl,rfl,rfl⟩,fun _ h=>absurd h hC,i5.out _ _ _ hb⟩
   have E:Hid (∀(w':World) (u v:Value),(∀i,i<d.states.n->yp d.p S i=0)->Below N.heap.size N w'->yR d.p w (.returned (.tuple #[.slice (some ⟨g,0,none⟩) m m,.agg #[.int .i64 0,.int .i64 0]])) ((w'.setCell ⟨f,0,none⟩ u).setCell ⟨f,1,none⟩ v)):=fun w' u v hp hb=>by
    refine⟨0,0,_,m,m,rfl,.inr ⟨HC.out,.inr ⟨fun j hj=>by rw[<-ES.out];exact hp j (by rw[EN.out]at hj;exact hj),rfl,rfl⟩⟩,fun h=>absurd rfl h,fun h _=>?_,i5.out _ _ _ hb⟩
    refine⟨by rw[<-ES.out,b9.out,HM.out],g,rfl,fun i t ht=>?_⟩
    rw[<-ES.out]at ht;have k1:But f w' (w'.setCell ⟨f,0,none⟩ u):=set_but;have k2:But f (w'.setCell ⟨f,0,none⟩ u) ((w'.setCell ⟨f,0,none⟩ u).setCell ⟨f,1,none⟩ v):=set_but;exact(k1.trans k2).five (Ne.symm f9.out) (((g6.out.cs i t ht)).step hb)
   clear d7 G l1 l9 l6 b8 i8 e3 e8 g2 AE hS b0 i1 k9 hk l8 j3 j1 g0 i5 EK;go_wp2;go_loopw [9,10] (fun qv _ w2=>∃j:Nat,j<=d.states.n/\qv=.int .i64 j/\Hid (Below N.heap.size N w2)/\Hid (∀i,i<j->yp d.p S i=0)) (fun qv _ _=>d.states.n-(intOf qv).toNat)
   case atStart=>exact⟨0,zon _,rfl,zof _ _,fun i hi=>absurd hi (zoN _)⟩
   case round=>
    obtain⟨j,n3,rfl,G,U⟩:=hrel;obtain⟨z2,y0,y1,e0,e1,e7⟩:=M.out wr G.out;by_cases hj:j<d.states.n
    ·have m7:(j:Int)<(d.states.n:Int):=by omega
     have h9:=k5.out;have m8:IntKind.i64.wrap (3000+(j:Int))=3000+(j:Int):=zX _ (by omega) (by omega)
     obtain⟨sg,so,x,ea,hx,hp⟩:=zu (HL.out.step (zh j4.out G.out)).ss hj;rw[ea]at z2;obtain⟨⟨k0,_⟩,⟨k1,_⟩,⟨k2,_⟩,⟨k3,_⟩,⟨k4,_⟩,g8,_⟩:=hp;have j2:sg<wr.heap.size:=zog wr _ k0;have m2:=e7;have i6:Hid (qJ d.p j x.p):=by have:=zam HC.out (i:=j) (by rw[EN.out];exact hj);rwa[zfs hx]at this
     have hσl:j<S.length:=by rw[b9.out];omega
     obtain⟨σ,hσ⟩:∃σ,S[j]?=some σ :=⟨S[j],zoh hσl⟩;have i7:Hid σ.few:=g4.out σ (zol hσ);obtain⟨s0,s1,_,_,s4⟩:=(g6.out.cs j σ hσ).step G.out;have m3:g<wr.heap.size:=zog wr _ s0;have n4:(j:Int)<(m:Int):=by have:=HM.out;omega
     have c9:Hid (yp d.p S j=if σ.there=true then yP x.p σ else 0):=by
      show _=_;unfold yp;rw[show S.getD j Wk.zero= σ by rw[zoi,hσ];rfl,zfs hx]
     clear hσ hσl hx ea;have h6:x.head<6:=by
      have h1:x.head= -1\/0<=x.head/\x.head<(d.p.hs.length:Int):=i6.out.head;have e6:(d.p.hs.length:Int)<=6:=(zB HC.out 0 (by decide)).2.1
      omega
     have g9:Hid (0<x.cases.n->x.r.h<6):=fun h=>zkM HC.out i6.out (by show 0<x.cs.length;rw[g8];exact h)
     have e4:=hid g8;obtain⟨W6,hW6⟩:∃W6,W6=wr.alloc (.cells #[.int .i64 x.head,.int .i64 x.r.h,.int .i64 x.r.f,.slice x.cases.a x.cases.n x.cases.c,.int .i64 x.els] 60):=⟨_,rfl⟩;have b6:Below wr.heap.size wr W6:=by rw[hW6];exact ze (zof _ _)
     have b2:=hid (zh G.out b6);clear g8 i6;cases Y: σ.there with
     |false=>
      have I:Hid (yp d.p S j=0):=by show _=_;rw[c9.out,Y];rfl
      have X:=b2;have c8:=hid hW6;rw[Y]at s4;have RP:Hid (∀i,i<j+1->yp d.p S i=0):=fun i hi=>by
       by_cases e:i=j
       ·subst e;exact I.out
       ·exact U.out i (by omega)
      rw[hW6]at X;clear D E M b2 b6 G U c9 I hW6 c8 g9 e4;go_wp2;go_roundw
      case rel=>exact⟨j+1,by omega,by go_num,X,RP⟩
      case measure=>simp[intOf];omega
     |true=>
      have a8:Hid (yp d.p S j=yP x.p σ):=by show _=_;rw[c9.out,Y];rfl
      rw[Y]at s4;obtain⟨b,hb⟩:∃b,b=wr.heap.size:=⟨_,rfl⟩;have c0:W6.cell? ⟨b,0,none⟩=some (.int .i64 x.head):=by rw[hW6,hb];exact(zod _ _ _ _ rfl).trans rfl
      have c1:W6.cell? ⟨b,1,none⟩=some (.int .i64 x.r.h):=by rw[hW6,hb];exact(zod _ _ _ _ rfl).trans rfl
      have c3:W6.cell? ⟨b,3,none⟩=some (.slice x.cases.a x.cases.n x.cases.c):=by rw[hW6,hb];exact(zod _ _ _ _ rfl).trans rfl
      have c8:=hid hW6;have EB:=hid hb;go_wp2_with fail
      rw[<-c8.out,<-EB.out];replace s0:=za s0 b6
      replace s1:=za s1 b6
      clear hW6 hb c8 EB b6 k0 k1 k2 k3 k4 z2 y0 y1 e0 e1 j2 m3 e7 m2 s4 G c9;have z0:=zm c0;have zs:=zm s1;by_cases f5:0<=x.head
      ·have d0:decide ((0:Int)<=x.head)=true:=zoY f5;have f7:Hid (∀w',Calls Tryz.prog 30 #[.int .i64 x.head] w' fun e d8=>e=.returned (.int .u64 (zv x.head))/\d8=w'):=fun w'=>zbs x.head f5 h6 w'
       have h1:=kS σ.may (zv x.head) (xm i7.out.ma) (xm (jz h6));have c5:=zbu σ.may x.head;by_cases hA: σ.may&&& zv x.head=0
       ·have d6:((((σ.may&&& zv x.head:Nat):Int)) !=0)=false:=by rw[hA];rfl
        have a7:Hid (yP x.p σ =if 0<x.cs.length/\0<=x.r.h/\x.r.h≠x.head/\σ.must.testBit x.r.h.toNat=false then 12 else 0):=by
         show(if 0<=x.head/\σ.may.testBit x.head.toNat=true then(7:Int)else if 0<x.cs.length/\0<=x.r.h/\x.r.h≠x.head/\σ.must.testBit x.r.h.toNat=false then 12 else 0)=_
         rw[if_neg (c5.1 hA)]
        clear hA c5;generalize((σ.may&&& zv x.head:Nat):Int)=M1 at*;haveI inhB:∀w:World,Inhabited (zq w):=fun w=>⟨⟨w,zof _ _⟩⟩
        refine zi (by kernel_rfl) (by kernel_rfl) ?_
        repeat (go_big_quiet_step (first|(go_at_call 30;exact zt _ (f7.out _))))
        refine wpQuiet_nil ?_;intro wq H;obtain⟨⟨_,q⟩,B⟩:=H;subst B;clear z0 zs f7 h1;have a2:=za c1 q;have a3:=za c3 q;have Z:=za c0 q;have a0:=za s0 q;have z0:=zm Z;have z1:=zm a2;have z3:=zm a3;have zs:=zm a0;have Q:=hid (zh b2.out q);clear b2 q c0 c1 c3 s0 s1 inhB;by_cases a6:0<x.cases.n
        ·have d1:decide ((0:Int)<(x.cases.n:Int))=true:=zoY (by omega)
         have d2:decide (0<x.cases.n)=true:=zoY a6;by_cases a1:0<=x.r.h
         ·have d3:decide ((0:Int)<=x.r.h)=true:=zoY a1;by_cases T:x.r.h=x.head
          ·have d4:(x.r.h !=x.head)=false:=by rw[T];simp
           have I:Hid (yp d.p S j=0):=by show _=_;rw[a8.out,a7.out,if_neg (fun h=>h.2.2.1 T)]
           have RP:Hid (∀i,i<j+1->yp d.p S i=0):=fun i hi=>by
            by_cases e:i=j
            ·subst e;exact I.out
            ·exact U.out i (by omega)
           clear T;go_wp2_with fail
           haveI inhB:∀w:World,Inhabited (zq w):=fun w=>⟨⟨w,zof _ _⟩⟩
           refine zi (by kernel_rfl) (by kernel_rfl) ?_
           repeat (go_big_quiet_step (fail))
           refine wpQuiet_nil ?_;intro V H;obtain⟨⟨_,q⟩,B⟩:=H;subst B;have X:Hid (Below N.heap.size N V):=zh Q.out q;clear Q q z0 z1 z3 zs Z a2 a3 a0 M D E;go_wp2;go_roundw
           case rel=>exact⟨j+1,by omega,by go_num,X,RP⟩
           case measure=>simp[intOf];omega
          ·have d4:(x.r.h !=x.head)=true:=by rw[bne_iff_ne];exact T
           have e2:=g9.out a6;have e5:Hid (∀w',Calls Tryz.prog 30 #[.int .i64 x.r.h] w' fun e d8=>e=.returned (.int .u64 (zv x.r.h))/\d8=w'):=fun w'=>zbs x.r.h a1 e2 w'
           have c6:zv x.r.h<2^6:=jz e2;have h2:=kS σ.must (zv x.r.h) (xm i7.out.mu) (xm c6);have a5:=zbu σ.must x.r.h;by_cases hM: σ.must&&& zv x.r.h=0
           ·have d5:((((σ.must&&& zv x.r.h:Nat):Int))==0)=true:=by rw[hM];rfl
            have I:Hid (yp d.p S j=12):=by
             have hb: σ.must.testBit x.r.h.toNat=false:=by
              cases h: σ.must.testBit x.r.h.toNat with
              |false=>rfl
              |true=>exact absurd ⟨a1,h⟩ (a5.1 hM)
             show _=_;rw[a8.out,a7.out,if_pos ⟨by rw[e4.out];exact a6,a1,T,hb⟩]
            clear hM a5 c6 T;generalize((σ.must&&& zv x.r.h:Nat):Int)=M2 at*;go_wp2_with fail
            haveI inhB:∀w:World,Inhabited (zq w):=fun w=>⟨⟨w,zof _ _⟩⟩
            refine zi (by kernel_rfl) (by kernel_rfl) ?_
            repeat (go_big_quiet_step (first|(go_at_call 30;exact zt _ (e5.out _))))
            refine wpQuiet_nil ?_;intro V H;obtain⟨⟨_,q⟩,B⟩:=H;subst B;have i9:=hid (zh Q.out q);clear Q q z0 z1 z3 zs Z a2 a3 a0 inhB;have Q:=i9;obtain⟨_,y0,y1,e0,e1,e7⟩:=M.out V Q.out;have b7:Hid (Calls Tryz.prog 17 #[.int .i64 12,.int .i64 (3000+(j:Int))] V fun e w'=>e=.returned (.agg #[.int .i64 12,.int .i64 (3000+(j:Int))])/\Below V.heap.size V w'):=zA _ _ _
            have HE:=hid (fun w' hb=>D.out j 12 w' (.int .i64 12) (.int .i64 (3000+(j:Int))) hj (by decide) U.out I.out (zh Q.out hb))
            have b4:=hid (fun w' hb=>M.out w' (zh Q.out hb))
            clear D E M;go_wp2_with fail
            refine b7.out.mono ?_;rintro e w9 ⟨rfl,a9⟩;obtain⟨_,t0,t1,u0,u1,g3⟩:=b4.out w9 a9;have HX:=hid (HE.out w9 a9);clear HE b4 a9 b7 y0 y1 e0 e1;go_wp2;exact bodyPost_ret (v:=.tuple #[.slice none 0 0,.agg #[.int .i64 12,.int .i64 (3000+(j:Int))]]) (by simp[results,Tryz.results14,go_sem, *]) rfl HX.out
           ·have d5:((((σ.must&&& zv x.r.h:Nat):Int))==0)=false:=by rw[beq_eq_false_iff_ne];omega
            have I:Hid (yp d.p S j=0):=by
             show _=_;rw[a8.out,a7.out,if_neg (fun h=>hM (a5.2 (fun h3=>by rw[h.2.2.2]at h3;cases h3.2)))]
            have RP:Hid (∀i,i<j+1->yp d.p S i=0):=fun i hi=>by
             by_cases e:i=j
             ·subst e;exact I.out
             ·exact U.out i (by omega)
            clear hM a5 c6 T;generalize((σ.must&&& zv x.r.h:Nat):Int)=M2 at*;go_wp2_with fail
            haveI inhB:∀w:World,Inhabited (zq w):=fun w=>⟨⟨w,zof _ _⟩⟩
            refine zi (by kernel_rfl) (by kernel_rfl) ?_
            repeat (go_big_quiet_step (first|(go_at_call 30;exact zt _ (e5.out _))))
            refine wpQuiet_nil ?_;intro V H;obtain⟨⟨_,q⟩,B⟩:=H;subst B;have X:Hid (Below N.heap.size N V):=zh Q.out q;clear Q q z0 z1 z3 zs Z a2 a3 a0 M D E;go_wp2;go_roundw
            case rel=>exact⟨j+1,by omega,by go_num,X,RP⟩
            case measure=>simp[intOf];omega
         ·have d3:decide ((0:Int)<=x.r.h)=false:=zoX a1;have I:Hid (yp d.p S j=0):=by show _=_;rw[a8.out,a7.out,if_neg (fun h=>a1 h.2.1)]
          have RP:Hid (∀i,i<j+1->yp d.p S i=0):=fun i hi=>by
           by_cases e:i=j
           ·subst e;exact I.out
           ·exact U.out i (by omega)
          go_wp2_with fail
          haveI inhB:∀w:World,Inhabited (zq w):=fun w=>⟨⟨w,zof _ _⟩⟩
          refine zi (by kernel_rfl) (by kernel_rfl) ?_
          repeat (go_big_quiet_step (fail))
          refine wpQuiet_nil ?_;intro V H;obtain⟨⟨_,q⟩,B⟩:=H;subst B;have X:Hid (Below N.heap.size N V):=zh Q.out q;clear Q q z0 z1 z3 zs Z a2 a3 a0 M D E;go_wp2;go_roundw
          case rel=>exact⟨j+1,by omega,by go_num,X,RP⟩
          case measure=>simp[intOf];omega
        ·have d1:decide ((0:Int)<(x.cases.n:Int))=false:=zoX (by omega)
         have d2:decide (0<x.cases.n)=false:=zoX a6;have I:Hid (yp d.p S j=0):=by show _=_;rw[a8.out,a7.out,if_neg (fun h=>a6 (by rw[<-e4.out];exact h.1))]
         have RP:Hid (∀i,i<j+1->yp d.p S i=0):=fun i hi=>by
          by_cases e:i=j
          ·subst e;exact I.out
          ·exact U.out i (by omega)
         go_wp2_with fail
         haveI inhB:∀w:World,Inhabited (zq w):=fun w=>⟨⟨w,zof _ _⟩⟩
         refine zi (by kernel_rfl) (by kernel_rfl) ?_
         repeat (go_big_quiet_step (fail))
         refine wpQuiet_nil ?_;intro V H;obtain⟨⟨_,q⟩,B⟩:=H;subst B;have X:Hid (Below N.heap.size N V):=zh Q.out q;clear Q q z0 z1 z3 zs Z a2 a3 a0 M D E;go_wp2;go_roundw
         case rel=>exact⟨j+1,by omega,by go_num,X,RP⟩
         case measure=>simp[intOf];omega
       ·have d6:((((σ.may&&& zv x.head:Nat):Int)) !=0)=true:=by rw[bne_iff_ne];omega
        have I:Hid (yp d.p S j=7):=by
         show _=_;rw[a8.out];show(if 0<=x.head/\σ.may.testBit x.head.toNat=true then(7:Int)else if 0<x.cs.length/\0<=x.r.h/\x.r.h≠x.head/\σ.must.testBit x.r.h.toNat=false then 12 else 0)=7
         rw[if_pos (Decidable.byContradiction fun h=>hA (c5.2 h))]
        clear hA c5;generalize((σ.may&&& zv x.head:Nat):Int)=M1 at*;haveI inhB:∀w:World,Inhabited (zq w):=fun w=>⟨⟨w,zof _ _⟩⟩
        refine zi (by kernel_rfl) (by kernel_rfl) ?_
        repeat (go_big_quiet_step (first|(go_at_call 30;exact zt _ (f7.out _))))
        refine wpQuiet_nil ?_;intro V H;obtain⟨⟨_,q⟩,B⟩:=H;subst B;have Q:=hid (zh b2.out q);clear b2 q z0 zs f7 h1 c0 c1 c3 s0 s1 inhB;obtain⟨_,y0,y1,e0,e1,e7⟩:=M.out V Q.out;have b7:Hid (Calls Tryz.prog 17 #[.int .i64 7,.int .i64 (3000+(j:Int))] V fun e w'=>e=.returned (.agg #[.int .i64 7,.int .i64 (3000+(j:Int))])/\Below V.heap.size V w'):=zA _ _ _
        have HE:=hid (fun w' hb=>D.out j 7 w' (.int .i64 7) (.int .i64 (3000+(j:Int))) hj (by decide) U.out I.out (zh Q.out hb))
        have b4:=hid (fun w' hb=>M.out w' (zh Q.out hb))
        clear D E M;go_wp2_with fail
        refine b7.out.mono ?_;rintro e w9 ⟨rfl,a9⟩;obtain⟨_,t0,t1,u0,u1,g3⟩:=b4.out w9 a9;have HX:=hid (HE.out w9 a9);clear HE b4 a9 b7 y0 y1 e0 e1;go_wp2;exact bodyPost_ret (v:=.tuple #[.slice none 0 0,.agg #[.int .i64 7,.int .i64 (3000+(j:Int))]]) (by simp[results,Tryz.results14,go_sem, *]) rfl HX.out
      ·have d0:decide ((0:Int)<=x.head)=false:=zoX f5;have a7:Hid (yP x.p σ =if 0<x.cs.length/\0<=x.r.h/\x.r.h≠x.head/\σ.must.testBit x.r.h.toNat=false then 12 else 0):=by
        show(if 0<=x.head/\σ.may.testBit x.head.toNat=true then(7:Int)else if 0<x.cs.length/\0<=x.r.h/\x.r.h≠x.head/\σ.must.testBit x.r.h.toNat=false then 12 else 0)=_
        rw[if_neg (fun h=>f5 h.1)]
       haveI inhB:∀w:World,Inhabited (zq w):=fun w=>⟨⟨w,zof _ _⟩⟩
       refine zi (by kernel_rfl) (by kernel_rfl) ?_
       repeat (go_big_quiet_step (fail))
       refine wpQuiet_nil ?_;intro wq H;obtain⟨⟨_,q⟩,B⟩:=H;subst B;clear z0 zs;have a2:=za c1 q;have a3:=za c3 q;have Z:=za c0 q;have a0:=za s0 q;have z0:=zm Z;have z1:=zm a2;have z3:=zm a3;have zs:=zm a0;have Q:=hid (zh b2.out q);clear b2 q c0 c1 c3 s0 s1 inhB;by_cases a6:0<x.cases.n
       ·have d1:decide ((0:Int)<(x.cases.n:Int))=true:=zoY (by omega)
        have d2:decide (0<x.cases.n)=true:=zoY a6;by_cases a1:0<=x.r.h
        ·have d3:decide ((0:Int)<=x.r.h)=true:=zoY a1;by_cases T:x.r.h=x.head
         ·have d4:(x.r.h !=x.head)=false:=by rw[T];simp
          have I:Hid (yp d.p S j=0):=by show _=_;rw[a8.out,a7.out,if_neg (fun h=>h.2.2.1 T)]
          have RP:Hid (∀i,i<j+1->yp d.p S i=0):=fun i hi=>by
           by_cases e:i=j
           ·subst e;exact I.out
           ·exact U.out i (by omega)
          clear T;go_wp2_with fail
          haveI inhB:∀w:World,Inhabited (zq w):=fun w=>⟨⟨w,zof _ _⟩⟩
          refine zi (by kernel_rfl) (by kernel_rfl) ?_
          repeat (go_big_quiet_step (fail))
          refine wpQuiet_nil ?_;intro V H;obtain⟨⟨_,q⟩,B⟩:=H;subst B;have X:Hid (Below N.heap.size N V):=zh Q.out q;clear Q q z0 z1 z3 zs Z a2 a3 a0 M D E;go_wp2;go_roundw
          case rel=>exact⟨j+1,by omega,by go_num,X,RP⟩
          case measure=>simp[intOf];omega
         ·have d4:(x.r.h !=x.head)=true:=by rw[bne_iff_ne];exact T
          have e2:=g9.out a6;have e5:Hid (∀w',Calls Tryz.prog 30 #[.int .i64 x.r.h] w' fun e d8=>e=.returned (.int .u64 (zv x.r.h))/\d8=w'):=fun w'=>zbs x.r.h a1 e2 w'
          have c6:zv x.r.h<2^6:=jz e2;have h2:=kS σ.must (zv x.r.h) (xm i7.out.mu) (xm c6);have a5:=zbu σ.must x.r.h;by_cases hM: σ.must&&& zv x.r.h=0
          ·have d5:((((σ.must&&& zv x.r.h:Nat):Int))==0)=true:=by rw[hM];rfl
           have I:Hid (yp d.p S j=12):=by
            have hb: σ.must.testBit x.r.h.toNat=false:=by
             cases h: σ.must.testBit x.r.h.toNat with
             |false=>rfl
             |true=>exact absurd ⟨a1,h⟩ (a5.1 hM)
            show _=_;rw[a8.out,a7.out,if_pos ⟨by rw[e4.out];exact a6,a1,T,hb⟩]
           clear hM a5 c6 T;generalize((σ.must&&& zv x.r.h:Nat):Int)=M2 at*;go_wp2_with fail
           haveI inhB:∀w:World,Inhabited (zq w):=fun w=>⟨⟨w,zof _ _⟩⟩
           refine zi (by kernel_rfl) (by kernel_rfl) ?_
           repeat (go_big_quiet_step (first|(go_at_call 30;exact zt _ (e5.out _))))
           refine wpQuiet_nil ?_;intro V H;obtain⟨⟨_,q⟩,B⟩:=H;subst B;have i9:=hid (zh Q.out q);clear Q q z0 z1 z3 zs Z a2 a3 a0 inhB;have Q:=i9;obtain⟨_,y0,y1,e0,e1,e7⟩:=M.out V Q.out;have b7:Hid (Calls Tryz.prog 17 #[.int .i64 12,.int .i64 (3000+(j:Int))] V fun e w'=>e=.returned (.agg #[.int .i64 12,.int .i64 (3000+(j:Int))])/\Below V.heap.size V w'):=zA _ _ _
           have HE:=hid (fun w' hb=>D.out j 12 w' (.int .i64 12) (.int .i64 (3000+(j:Int))) hj (by decide) U.out I.out (zh Q.out hb))
           have b4:=hid (fun w' hb=>M.out w' (zh Q.out hb))
           clear D E M;go_wp2_with fail
           refine b7.out.mono ?_;rintro e w9 ⟨rfl,a9⟩;obtain⟨_,t0,t1,u0,u1,g3⟩:=b4.out w9 a9;have HX:=hid (HE.out w9 a9);clear HE b4 a9 b7 y0 y1 e0 e1;go_wp2;exact bodyPost_ret (v:=.tuple #[.slice none 0 0,.agg #[.int .i64 12,.int .i64 (3000+(j:Int))]]) (by simp[results,Tryz.results14,go_sem, *]) rfl HX.out
          ·have d5:((((σ.must&&& zv x.r.h:Nat):Int))==0)=false:=by rw[beq_eq_false_iff_ne];omega
           have I:Hid (yp d.p S j=0):=by
            show _=_;rw[a8.out,a7.out,if_neg (fun h=>hM (a5.2 (fun h3=>by rw[h.2.2.2]at h3;cases h3.2)))]
           have RP:Hid (∀i,i<j+1->yp d.p S i=0):=fun i hi=>by
            by_cases e:i=j
            ·subst e;exact I.out
            ·exact U.out i (by omega)
           clear hM a5 c6 T;generalize((σ.must&&& zv x.r.h:Nat):Int)=M2 at*;go_wp2_with fail
           haveI inhB:∀w:World,Inhabited (zq w):=fun w=>⟨⟨w,zof _ _⟩⟩
           refine zi (by kernel_rfl) (by kernel_rfl) ?_
           repeat (go_big_quiet_step (first|(go_at_call 30;exact zt _ (e5.out _))))
           refine wpQuiet_nil ?_;intro V H;obtain⟨⟨_,q⟩,B⟩:=H;subst B;have X:Hid (Below N.heap.size N V):=zh Q.out q;clear Q q z0 z1 z3 zs Z a2 a3 a0 M D E;go_wp2;go_roundw
           case rel=>exact⟨j+1,by omega,by go_num,X,RP⟩
           case measure=>simp[intOf];omega
        ·have d3:decide ((0:Int)<=x.r.h)=false:=zoX a1;have I:Hid (yp d.p S j=0):=by show _=_;rw[a8.out,a7.out,if_neg (fun h=>a1 h.2.1)]
         have RP:Hid (∀i,i<j+1->yp d.p S i=0):=fun i hi=>by
          by_cases e:i=j
          ·subst e;exact I.out
          ·exact U.out i (by omega)
         go_wp2_with fail
         haveI inhB:∀w:World,Inhabited (zq w):=fun w=>⟨⟨w,zof _ _⟩⟩
         refine zi (by kernel_rfl) (by kernel_rfl) ?_
         repeat (go_big_quiet_step (fail))
         refine wpQuiet_nil ?_;intro V H;obtain⟨⟨_,q⟩,B⟩:=H;subst B;have X:Hid (Below N.heap.size N V):=zh Q.out q;clear Q q z0 z1 z3 zs Z a2 a3 a0 M D E;go_wp2;go_roundw
         case rel=>exact⟨j+1,by omega,by go_num,X,RP⟩
         case measure=>simp[intOf];omega
       ·have d1:decide ((0:Int)<(x.cases.n:Int))=false:=zoX (by omega)
        have d2:decide (0<x.cases.n)=false:=zoX a6;have I:Hid (yp d.p S j=0):=by show _=_;rw[a8.out,a7.out,if_neg (fun h=>a6 (by rw[<-e4.out];exact h.1))]
        have RP:Hid (∀i,i<j+1->yp d.p S i=0):=fun i hi=>by
         by_cases e:i=j
         ·subst e;exact I.out
         ·exact U.out i (by omega)
        go_wp2_with fail
        haveI inhB:∀w:World,Inhabited (zq w):=fun w=>⟨⟨w,zof _ _⟩⟩
        refine zi (by kernel_rfl) (by kernel_rfl) ?_
        repeat (go_big_quiet_step (fail))
        refine wpQuiet_nil ?_;intro V H;obtain⟨⟨_,q⟩,B⟩:=H;subst B;have X:Hid (Below N.heap.size N V):=zh Q.out q;clear Q q z0 z1 z3 zs Z a2 a3 a0 M D E;go_wp2;go_roundw
        case rel=>exact⟨j+1,by omega,by go_num,X,RP⟩
        case measure=>simp[intOf];omega
    ·have m7:¬(j:Int)<(d.states.n:Int):=by omega
     have HX:=hid (E.out wr (.int .i64 0) (.int .i64 0) (fun i hi=>U.out i (by omega)) G.out)
     clear E D M U G;go_wp2;exact bodyPost_ret (v:=.tuple #[.slice (some ⟨g,0,none⟩) m m,.agg #[.int .i64 0,.int .i64 0]]) (by simp[results,Tryz.results14,go_sem, *]) rfl HX.out
theorem zgv(d:PlanD)(w:World)(a:d.lie w)(hs:d.p.little):Calls Tryz.prog 14 #[d.v] w (yR d.p w):=by
 by_cases b:(zD d.p).1=0
 ·exact zfv d w a hs b
 ·exact zgu d w a hs b
end Go.Proofs.YtdajaaondlekfaaGreat
