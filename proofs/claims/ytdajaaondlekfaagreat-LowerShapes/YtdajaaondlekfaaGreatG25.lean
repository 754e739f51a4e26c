import Derived.Test.YtdajaaondlekfaaGreatG20
import Derived.Deep.DeepCutAuto
import Derived.Test.YtdajaaondlekfaaGreatG8
import Derived.Test.YtdajaaondlekfaaGreatG3
import Derived.Deep.RegionHeld3
import Derived.Test.YtdajaaondlekfaaGreatG19
set_option maxHeartbeats 16000000
set_option maxRecDepth 20000
set_option linter.unusedSimpArgs false
namespace Go.Proofs.YtdajaaondlekfaaGreat
open Go.RowKit
@[reducible] def pz0:Array Value:= #[.int .i64 0,.slice none 0 0,.slice none 0 0]
theorem zmh{w w':World}(h:Below (w.alloc (.cells pz0 44)).heap.size (w.alloc (.cells pz0 44)) w'):w'.heap[w.heap.size]?=some (.cells pz0 44 (0,0)):=
 (h.block _ (by simp)).trans (zK _ _ _)
theorem zi1{w w':World}(h:Below (w.alloc (.cells pz0 44)).drew.heap.size (w.alloc (.cells pz0 44)).drew w'):w'.heap[w.heap.size]?=some (.cells pz0 44 (0,0)):=
 (h.block _ (by show w.heap.size<(w.alloc _).heap.size;simp)).trans (zK _ _ _)
structure zmC (w : World) (b : Nat) : Prop where
 t0 : w.cell? ⟨b, 0, none⟩ = some (.int .i64 0)
 t1 : w.cell? ⟨b, 1, none⟩ = some (.slice none 0 0)
 t2 : w.cell? ⟨b, 2, none⟩ = some (.slice none 0 0)
 f0 : w.frozen? ⟨b, 0, none⟩ = false
 f1 : w.frozen? ⟨b, 1, none⟩ = false
 f2 : w.frozen? ⟨b, 2, none⟩ = false
 l : b < w.heap.size
theorem zaU{w:World}{b:Nat}(h:w.heap[b]?=some (.cells pz0 44 (0,0))):zmC w b:=⟨zj h 0,zj h 1,zj h 2,by simp[World.frozen?,h],by simp[World.frozen?,h],by simp[World.frozen?,h],(zoj.1 h).1⟩
theorem zne{w:World}{b:Nat}{cs:Array Value}{T:TypeId}(h:w.heap[b]?=some (.cells cs T (0,0)))(d:cs.size=3)(x y z:Value):(((w.setCell ⟨b,0,none⟩ x).setCell ⟨b,1,none⟩ y).setCell ⟨b,2,none⟩ z).heap[b]?=some (.cells #[x,y,z] T (0,0)):=by
 have:=yx (yx (yx h 0 x) 1 y) 2 z;rw[this];obtain⟨l⟩:=cs;match l,d with
 |[a,b,c],_=>rfl
theorem zdf{w:World}{b base n k c:Nat}{T:TypeId}{a:Option Addr}{e:List Value}(h:w.ownsRow base T k (.slice a n c) n e)(d:∀ad:Addr,a=some ad->ad.block≠b)(x y z:Value):(((w.setCell ⟨b,0,none⟩ x).setCell ⟨b,1,none⟩ y).setCell ⟨b,2,none⟩ z).ownsRow base T k (.slice a n c) n e:=
 xA h fun ad ha=>by rw[zop _ _ _ _ (by exact d ad ha),zop _ _ _ _ (by exact d ad ha),zop _ _ _ _ (by exact d ad ha)]
theorem zaV{w:World}{base b n k c:Nat}{T:TypeId}{a:Option Addr}{e:List Value}(h:w.ownsRow base T k (.slice a n c) n e)(hb:b<=base):w.ownsRow b T k (.slice a n c) n e:=by
 refine⟨h.1,?_⟩;rcases h.2 with h2|⟨g,cap,d,f,i,r⟩
 ·exact .inl h2
 ·exact .inr ⟨g,cap,d,f,zoz hb i,r⟩
structure ResAt (w W2 : World) (rb fb : Nat) (wx : World) : Prop where
 r : wx.heap[rb]? = some (.cells pz0 44 (0, 0))
 f : wx.heap[fb]? = some (.cells #[.int .i64 0, .int .i64 0] 34 (0, 0))
 lr : w.heap.size <= rb
 lf : w.heap.size <= fb
 ne : ¬ rb = fb
 hr : rb < W2.heap.size
 hf : fb < W2.heap.size
theorem ResAt.step{w e:World}{d c:Nat}{a wy:World}(h:ResAt w e d c a)(b:Below a.heap.size a wy):ResAt w e d c wy:=
 ⟨(b.block _ (zoj.1 h.r).1).trans h.r,(b.block _ (zoj.1 h.f).1).trans h.f,h.lr,h.lf,h.ne,h.hr,h.hf⟩
theorem zdU{w e:World}{a c:Nat}{d:World}(h:ResAt w e a c d)(b:Below w.heap.size w d)(x y z u v:Value):Below w.heap.size w (((((d.setCell ⟨a,0,none⟩ x).setCell ⟨a,1,none⟩ y).setCell ⟨a,2,none⟩ z).setCell ⟨c,0,none⟩ u).setCell ⟨c,1,none⟩ v):=
 ((((b.setCell (p:=⟨a,0,none⟩) h.lr _).setCell (p:=⟨a,1,none⟩) h.lr _).setCell (p:=⟨a,2,none⟩) h.lr _).setCell (p:=⟨c,0,none⟩) h.lf _).setCell (p:=⟨c,1,none⟩) h.lf _
theorem zlb{w f:World}{a b:Nat}{d:World}(h:ResAt w f a b d){q:ProgD}(g:q.lie d)(e:OwnB q f d)(x y z u v:Value):q.lie (((((d.setCell ⟨a,0,none⟩ x).setCell ⟨a,1,none⟩ y).setCell ⟨a,2,none⟩ z).setCell ⟨b,0,none⟩ u).setCell ⟨b,1,none⟩ v):=by
 have i:=h.hr;have h2:=h.hf;refine g.blk (fun ad c=>?_) (fun ad c=>?_)
 ·have:=(e.2 ad c).2;rw[zop _ _ _ _ (by show ad.block≠b;omega),zop _ _ _ _ (by show ad.block≠b;omega),zop _ _ _ _ (by show ad.block≠a;omega),zop _ _ _ _ (by show ad.block≠a;omega),zop _ _ _ _ (by show ad.block≠a;omega)]
 ·have:=(e.1 ad c).2;rw[zop _ _ _ _ (by show ad.block≠b;omega),zop _ _ _ _ (by show ad.block≠b;omega),zop _ _ _ _ (by show ad.block≠a;omega),zop _ _ _ _ (by show ad.block≠a;omega),zop _ _ _ _ (by show ad.block≠a;omega)]
theorem zen{a b:World}{pb:Nat}{slots:Int}{ts:List ShapeD}{cs:List InsD}{k i:Option Addr}{tn j cn cc:Nat}(hs:yt slots)(h:∀x∈ts,x.wf)(f:∀x∈cs,x.wf)(hb:Below a.heap.size a b)
 (g:b.heap[pb]?=some (.cells pz0 44 (0,0))) (e:a.heap.size<=pb)
 (c:b.ownsRow a.heap.size 41 3 (.slice k tn j) tn (ts.flatMap yK)) (d:b.ownsRow a.heap.size 126 6 (.slice i cn cc) cn (cs.flatMap yL)):
 DonAt a pb ⟨slots,⟨k,tn,j⟩,ts,⟨i,cn,cc⟩,cs⟩ (((b.setCell ⟨pb,0,none⟩ (.int .i64 slots)).setCell ⟨pb,1,none⟩ (.slice k tn j)).setCell ⟨pb,2,none⟩ (.slice i cn cc)):=
 zgJ hs h f (((hb.setCell (p:=⟨pb,0,none⟩) e _).setCell (p:=⟨pb,1,none⟩) e _).setCell (p:=⟨pb,2,none⟩) e _) (zne g rfl _ _ _) e (zdf c (fun _ ha=>jc c g (by decide) ha) _ _ _) (zdf d (fun _ ha=>jc d g (by decide) ha) _ _ _)
theorem znf{B:Nat}{d:LabD}{w:World}(h:LabAt 132 B d w)(g5:d.cs.length<=60000)(slots:Int)(hs:yt slots){s:QSl}{ts:List ShapeD}(hr:QRow 3 ShapeD.lie w s ts)(hn:s.nil0)(g6:s.n<=300):Calls Tryz.prog 24 #[zcf d.p,.int .i64 slots,.slice s.a s.n s.c] w (zaG d.ms slots ts d.cs w):=by
 obtain⟨C,hW2⟩:∃C,C=((w.alloc (.cells #[.int .i64 0,.slice none 0 0,.slice none 0 0] 44)).alloc (.cells #[.int .i64 0,.int .i64 0] 34)):=⟨_,rfl⟩;obtain⟨rb,hrb⟩:∃b,b=w.heap.size:=⟨_,rfl⟩;obtain⟨fb,hfb⟩:∃b,b=w.heap.size+1:=⟨_,rfl⟩;have b2:Below w.heap.size w C:=by rw[hW2];exact ze (ze (zof _ _))
 have HB:=hid b2;have L:Hid (ResAt w C rb fb C):=by
  refine⟨?_,?_,by omega,by omega,by omega,?_,?_⟩
  ·rw[hW2,hrb];rw[Below.heap_alloc _ _ _ (by simp)]
   exact zK _ _ _
  ·rw[hW2,hfb];have:=zK (w.alloc (.cells #[.int .i64 0,.slice none 0 0,.slice none 0 0] 44)) #[.int .i64 0,.int .i64 0] 34;simpa using this
  ·rw[hW2,hrb];simp;omega
  ·rw[hW2,hfb];simp
 have HL:=hid (h.step b2);have c6:Hid (∀w',Below C.heap.size C w'->Calls Tryz.prog 47 #[.slice s.a s.n s.c] w' (zao yK 3 41 ts s.n w')):=fun w' hb=>zdQ (hr.step ShapeD.keeps (zh b2 hb)) hn (by omega)
 have b4:Hid (∀w',Below C.heap.size C w'->Calls Tryz.prog 48 #[.slice d.la d.cs.length d.lc] w' (zao yL 6 126 d.cs d.cs.length w')):=fun w' hb=>by
  have hh:=(h.step (zh b2 hb)).row;exact zfz (s:=⟨d.la,d.cs.length,d.lc⟩) hh.1 hh.2 (by show d.cs.length<=100000;omega)
 have c2:∀x∈ts,x.wf:=fun x hx=>by
  obtain⟨i,hi,rfl⟩:=zoR hx;obtain⟨g,off,_,hp⟩:=hr.2 i _ (zoh hi);exact hp.wf
 have d5:Hid (∀w',Below C.heap.size C w'->∀(i:Nat),i<=100000->∀l,Calls Tryz.prog 50 #[zcf d.p,.int .i64 i,.int .i64 l] w' fun e d3=>e=.returned (.tuple #[.int .i64 (toN d.ms i l).1,.int .i64 (toN d.ms i l).2])/\d3=w'):=fun w' hb i hi l=>ziU (h.step (zh b2 hb)) i hi (by omega) l
 have V:=hid c2;have Y:=hid h.wf;have d2:=hid h.wm;have W:=hid hs;have c4:Hid (ts.length=s.n):=hr.1;have j:=hid (zof C.heap.size C).drew;have H:=hid (zof C.heap.size C);have EW:=hid hW2;have ER:=hid hrb;have EF:=hid hfb;obtain⟨c0,c1,z0,z1,l0⟩:=(h.step b2).lbox;have U:Hid (∀w',Below C.heap.size C w'->¬(w'.heap.size=d.p)/\¬(d.p=w'.heap.size)/\d.p<w'.heap.size):=fun w' hb=>by
  have:=hb.size;omega
 obtain⟨e7,b5,e8⟩:=U.out C (zof _ _);clear h hr hn c2 hs hW2 hrb hfb b2;go_enter Tryz.func24,Tryz.ntmps24
 go_upto_region 1 with fail
 rw[<-EW.out,<-EF.out,<-ER.out];go_cut [8] (fun v8 wx=>∃(pb:Nat) (q:ProgD),v8=.pointer (some ⟨pb,0,none⟩)/\Hid (DonAt C pb q wx/\q.slots=slots/\q.ts=ts/\q.cs=d.cs))
 case first=>
  go_region_held3 (fun w'=>w'.cell? ⟨d.p,0,none⟩=some (.slice d.la d.cs.length d.lc))
   (first
    |(with_reducible exact za c0 j.out)
    |(with_reducible exact za c0 (ze H.out).drew)
    |(with_reducible exact za c0 (ze j.out))
    |go_keep)
   (first
    |(go_at_call 47;(with_reducible refine(c6.out _ (by with_reducible first|exact j.out|exact ze j.out|exact(ze H.out).drew)).mono ?_);rintro e wx ⟨am,cm,rfl,b0,A⟩;have g4:=j;have f5:=A;have j:=hid (zh (by with_reducible first|exact j.out|exact ze j.out|exact(ze H.out).drew) A);obtain⟨g0,f6,f9⟩:=U.out _ j.out;(first|((first|(with_reducible have S:=zi1 A)|(with_reducible have S:=zmh A));have D:=zaU S;have t0:=D.t0;have f0:=D.f0;have t1:=D.t1;have f1:=D.f1;have t2:=D.t2;have f2:=D.f2;have a7:=D.l)|skip))
    |(go_at_call 48;(with_reducible refine(b4.out _ (by with_reducible first|exact j.out|exact ze j.out|exact(ze H.out).drew)).mono ?_);rintro e wy ⟨ao,co,rfl,a2,A⟩;have Z:=j;have j:=hid (zh (by with_reducible first|exact j.out|exact ze j.out|exact(ze H.out).drew) A);obtain⟨g3,f4,f8⟩:=U.out _ j.out;(first|((first|(with_reducible have S:=zi1 A)|(with_reducible have S:=zmh A));have D:=zaU S;have t0:=D.t0;have f0:=D.f0;have t1:=D.t1;have f1:=D.f1;have t2:=D.t2;have f2:=D.f2;have a7:=D.l)|(have S:=(A.block _ a7).trans S;have D:=zaU S;have t0:=D.t0;have f0:=D.f0;have t1:=D.t1;have f1:=D.f1;have t2:=D.t2;have f2:=D.f2;have a7:=D.l)|skip)))
  ·have O:=hid (zgJ (pb:=wy.heap.size) W.out V.out Y.out (ze j.out) (zK wy #[.int .i64 slots,.slice am s.n cm,.slice ao d.cs.length co] 44) j.out.size (zZ (zZ b0 A) (ze (zof _ _))) (zaV (zZ a2 (ze (zof _ _))) Z.out.size));go_wp2_with fail
   go_meet
   exact⟨_,_,rfl,O.out,rfl,rfl,rfl⟩
  ·have O:=hid (zen W.out V.out Y.out j.out S Z.out.size (zZ b0 (zh (ze (zof _ _)) A)) (zaV a2 (ze Z.out).size));go_wp2_with fail
   go_meet
   exact⟨_,_,rfl,O.out,rfl,rfl,rfl⟩
  ·have O:=hid (zen W.out V.out Y.out j.out S (zos _) (zaV (zZ b0 A) (ze (zof C.heap.size C)).size) (zaV a2 Z.out.size));go_wp2_with fail
   go_meet
   exact⟨_,_,rfl,O.out,rfl,rfl,rfl⟩
 case rest=>
  obtain⟨pb,q,rfl,HQ⟩:=hcut;obtain⟨F,⟨ta,tn,X⟩,m,⟨Q,N,R⟩,g7⟩:=q;obtain⟨E,e1,e2,e3⟩:=HQ.out;dsimp only at e1 e2 e3;subst e1 e2 e3;have HD:=hid E;have d4:=(zj E.box 0).trans (rfl:_=some (Value.int .i64 F));have d9:=(zj E.box 1).trans (rfl:_=some (Value.slice ta tn X));have c9:=(zj E.box 2).trans (rfl:_=some (Value.slice Q N R));have b3:d.cs.length=N:=E.lie.c.1;have c3:m.length=tn:=E.lie.t.1;have a9:=hid b3;have c5:=hid c3;have g1:N<=60000:=by omega
  clear E HQ b3 c3 c6 b4 j H U e7 b5 e8 c0 c1 z0 z1 l0 V Y W EW ER EF;go_wp2;go_loopw [26,9,10,11,12] (fun k _ _ _ _ wr=>∃i:Nat,i<=N/\k=.int .i64 i/\Hid (DonAt C pb (ProgD.withC ⟨F,⟨ta,tn,X⟩,m,⟨Q,N,R⟩,d.cs⟩ (upL d.ms d.cs i)) wr/\∀(k:Nat) t,k<i->d.cs[k]?=some t->yW d.ms k t=0)) (fun k _ _ _ _ _=>N-(intOf k).toNat)
  case atStart=>exact⟨0,zon _,rfl,HD.out,fun k t hk=>absurd hk (by omega)⟩
  case round=>
   obtain⟨i,hi,rfl,J⟩:=hrel;obtain⟨M,JC⟩:=J.out;have HJ:=hid M;have a0:=hid JC;obtain⟨r0,r1,r2,r3,r4,r5,rl⟩:=zaU (L.out.step M.bel).r;have G:=(L.out.step M.bel).f;have s0:=(zj G 0).trans (rfl:_=some (Value.int .i64 0));have s1:=(zj G 1).trans (rfl:_=some (Value.int .i64 0));have s2:wr.frozen? ⟨fb,0,none⟩=false:=by simp[World.frozen?,G]
   have s3:wr.frozen? ⟨fb,1,none⟩=false:=by simp[World.frozen?,G]
   have sl:=(zoj.1 G).1;have d8:=L.out.ne;have f7:¬fb=rb:=fun e=>d8 e.symm
   clear d4 d9 c9 G HD;by_cases b6:i<N
   ·have d6:(i:Int)<(N:Int):=by omega
    obtain⟨x,hx⟩:∃x,d.cs[i]?=some x:=⟨_,zoh (by rw[a9.out];exact b6)⟩
    obtain⟨g,off,y,ea,hy,a1⟩:=zV M.lie.c (show i<N from b6)
    have hy:(upL d.ms d.cs i)[i]?=some y:=hy;rw[zdT hx]at hy;obtain rfl:=zoq hy;have ea:Q=some ⟨g,off,none⟩:=ea;subst ea;have g2:wr.frozen? ⟨g,off+i*6+4,none⟩=false:=by
     obtain⟨⟨d1,K⟩,_⟩:=M.own.1 ⟨g,off,none⟩ rfl;have K:wr.heap[g]?=some (.cells d1 126 (0,0)):=K;simp[World.frozen?,K]
    have gl:=zog _ _ a1.1.1;have q2:=(zj M.box 2).trans (rfl:_=some (Value.slice (some ⟨g,off,none⟩) N R));have a8:=(zoj.1 M.box).1;obtain⟨⟨x0,_⟩,⟨x1,_⟩,⟨x2,_⟩,⟨x3,_⟩,⟨x4,_⟩,⟨x5,_⟩⟩:=a1;have HX:=hid hx;clear hx hy M JC J;have b1:Below C.heap.size C (wr.alloc (.cells #[.int .i64 x.op,.int .i64 x.r,.int .i64 x.s,.int .i64 x.k,.int .i64 x.to,.int .u64 x.n] 126)):=ze HJ.out.bel;have d0:=hid (HJ.out.step (w':=wr.alloc (.cells #[.int .i64 x.op,.int .i64 x.r,.int .i64 x.s,.int .i64 x.k,.int .i64 x.to,.int .u64 x.n] 126)) (ze (zof _ _)));have e9:=hid b1;clear b1;go_wp2_with fail
    refine(zmD _ _).mono ?_;rintro e w1 ⟨rfl,rfl⟩;by_cases hT:ym x.op=true
    ·rw[hT];have HT:=hid hT;clear hT;go_wp2_with fail
     refine(d5.out _ e9.out i (by omega) x.to).mono ?_
     rintro e w1 ⟨rfl,rfl⟩;by_cases K:(toN d.ms i x.to).2=0
     ·have a4:Hid (yW d.ms i x=0):=by show yW d.ms i x=0;unfold yW;rw[HT.out,if_pos rfl];exact K
      have e6:=hid (zmA (ms:=d.ms) (i:=i) HT.out);have HW:Hid (yt (toN d.ms i x.to).1):=zmB d2.out (by omega)
      have HP:=hid (HJ.out.put (zdT HX.out) rfl (toN d.ms i x.to).1 HW.out);rw[K];generalize(toN d.ms i x.to).1=ov at*;clear K;go_wp2;go_roundw
      case rel=>
       refine⟨i+1,by omega,by go_num,?_,zce a0.out HX.out a4.out⟩
       rw[zem HX.out,e6.out];exact HP.out.step (ze (zof _ _))
      case measure=>simp[intOf];omega
     ·have HE:=hid (zhq (slots:=F) (ts:=m) a0.out HX.out HT.out K);have e0:=hid K;have d7:=hid (zdU (L.out.step HJ.out.bel) (zh HB.out HJ.out.bel));have f3:((toN d.ms i x.to).2 !=0)=true:=by simpa using K
      generalize(toN d.ms i x.to).2=cd at*;generalize(toN d.ms i x.to).1=ov at*;clear K;go_wp2;exact bodyPost_ret (v:=.tuple #[.agg #[.int .i64 0,.slice none 0 0,.slice none 0 0],.agg #[.int .i64 cd,.int .i64 (i:Int)]]) (by simp[results,Tryz.results24,go_sem, *]) rfl (zel HE.out e0.out (ze (d7.out _ _ _ _ _)))
    ·have a6:ym x.op=false:=by simpa using hT
     rw[a6];have HT:=hid a6;clear hT a6;go_wp2;go_roundw
     case rel=>
      refine⟨i+1,by omega,by go_num,?_,zce a0.out HX.out (by unfold yW;rw[HT.out,if_neg (by decide)])⟩
      rw[ziY HX.out HT.out];exact d0.out
     case measure=>simp[intOf];omega
   ·have d6:¬(i:Int)<(N:Int):=by omega
    obtain rfl:i=N:=by omega
    have e4:upL d.ms d.cs i=kL d.ms d.cs 0:=by rw[<-zla,a9.out]
    rw[e4]at M;have p0:=(zj M.box 0).trans (rfl:_=some (Value.int .i64 F));have p1:=(zj M.box 1).trans (rfl:_=some (Value.slice ta tn X));have p2:=(zj M.box 2).trans (rfl:_=some (Value.slice Q i R));have a8:=(zoj.1 M.box).1;have b8:Hid (Calls Tryz.prog 51 #[.agg #[.int .i64 F,.slice ta tn X,.slice Q i R]] wr (za6 (xJ F m (kL d.ms d.cs 0)) wr)):=zjt (ProgD.withC ⟨F,⟨ta,tn,X⟩,m,⟨Q,i,R⟩,d.cs⟩ (kL d.ms d.cs 0)) wr M.lie ⟨by show tn<=300;have:=c5.out;have:=c4.out;omega,by show i<=65535;omega⟩
    have c8:Hid (ProgD.small (ProgD.withC ⟨F,⟨ta,tn,X⟩,m,⟨Q,i,R⟩,d.cs⟩ (kL d.ms d.cs 0))):=⟨by show tn<=300;have:=c5.out;have:=c4.out;omega,by show i<=65535;omega⟩
    have a5:Hid (kU d.ms F m d.cs=xJ F m (kL d.ms d.cs 0)):=ziZ (fun k t hk=>JC k t (by rw[<-a9.out];exact hk))
    have b7:=hid M;clear M JC J e4 HJ a0;go_wp2_with fail
    refine b8.out.mono ?_;rintro e w9 ⟨rfl,I⟩;have T:=hid (b7.out.step I);have B9:=hid (zh HB.out T.out.bel);have a3:=hid (L.out.step T.out.bel);have r0:=za r0 I;have r1:=za r1 I;have r2:=za r2 I;have r3:=(I.frozen (p:=⟨rb,0,none⟩) rl).trans r3;have r4:=(I.frozen (p:=⟨rb,1,none⟩) rl).trans r4;have r5:=(I.frozen (p:=⟨rb,2,none⟩) rl).trans r5;have rl:=zom rl I.size;have s0:=za s0 I;have s1:=za s1 I;have s2:=(I.frozen (p:=⟨fb,0,none⟩) sl).trans s2;have s3:=(I.frozen (p:=⟨fb,1,none⟩) sl).trans s3;have sl:=zom sl I.size;have p0:=za p0 I;have p1:=za p1 I;have p2:=za p2 I;have a8:=zom a8 I.size;clear I b8 b7;by_cases K:(xJ F m (kL d.ms d.cs 0)).1=0
    ·have e5:=zi0 K;rw[e5];have HE:Hid (kU d.ms F m d.cs=(0,0)):=a5.out.trans e5;clear K e5 a5;have P:Hid (∀o x y z u v,zaG d.ms F m d.cs w (.returned (.tuple #[.agg #[.int .i64 F,.slice ta tn X,.slice Q i R],.agg #[.int .i64 0,.int .i64 0]])) ((((((w9.setCell ⟨rb,0,none⟩ x).setCell ⟨rb,1,none⟩ y).setCell ⟨rb,2,none⟩ z).setCell ⟨fb,0,none⟩ u).setCell ⟨fb,1,none⟩ v).alloc o)):=fun o x y z u v=>
      zhp (ProgD.withC ⟨F,⟨ta,tn,X⟩,m,⟨Q,i,R⟩,d.cs⟩ (kL d.ms d.cs 0)) HE.out rfl rfl rfl ((zlb a3.out T.out.lie T.out.own _ _ _ _ _).step (ze (zof _ _))) c8.out (ze (zdU a3.out B9.out _ _ _ _ _))
     go_wp2;exact bodyPost_ret (v:=.tuple #[.agg #[.int .i64 F,.slice ta tn X,.slice Q i R],.agg #[.int .i64 0,.int .i64 0]]) (by simp[results,Tryz.results24,go_sem, *]) rfl (P.out _ _ _ _ _ _)
    ·have a4:=hid K;have P:Hid (∀o x y z u v,zaG d.ms F m d.cs w (.returned (.tuple #[.agg #[.int .i64 0,.slice none 0 0,.slice none 0 0],.agg #[.int .i64 (xJ F m (kL d.ms d.cs 0)).1,.int .i64 (xJ F m (kL d.ms d.cs 0)).2]])) ((((((w9.setCell ⟨rb,0,none⟩ x).setCell ⟨rb,1,none⟩ y).setCell ⟨rb,2,none⟩ z).setCell ⟨fb,0,none⟩ u).setCell ⟨fb,1,none⟩ v).alloc o).drew):=fun o x y z u v=>zel a5.out a4.out (ze (zdU a3.out B9.out _ _ _ _ _)).drew
     have f3:((xJ F m (kL d.ms d.cs 0)).1 !=0)=true:=by simpa using K
     generalize(xJ F m (kL d.ms d.cs 0)).1=cd at*;generalize(xJ F m (kL d.ms d.cs 0)).2=ca at*;clear K;go_wp2_with fail
     go_region
     all_goals
      go_wp2;exact bodyPost_ret (v:=.tuple #[.agg #[.int .i64 0,.slice none 0 0,.slice none 0 0],.agg #[.int .i64 cd,.int .i64 ca]]) (by simp[results,Tryz.results24,go_sem, *]) rfl (P.out _ _ _ _ _ _)
@[reducible] def qN(sh tb pk:Value)(port:Int):Array Value:= #[.int .u64 0,.bool false,.int .u64 0,.bool false,.int .u64 0,.bool false,.int .u64 0,.bool false,.int .u64 0,.bool false,.int .u64 0,.bool false,.int .u64 0,.bool false,.int .u64 0,.bool false,.int .u64 0,.bool false,.int .u64 0,.bool false,.int .u64 0,.bool false,.int .u64 0,.bool false,.int .u64 0,.bool false,.int .u64 0,.bool false,.int .u64 0,.bool false,.int .u64 0,.bool false,.int .u64 0,.bool false,.int .u64 0,.bool false,.int .u64 0,.bool false,.int .u64 0,.bool false,.int .u64 0,.bool false,.int .u64 0,.bool false,.int .u64 0,.bool false,.int .u64 0,.bool false,.int .u64 0,.bool false,.int .u64 0,.bool false,.int .u64 0,.bool false,.int .u64 0,.bool false,.int .u64 0,.bool false,.int .u64 0,.bool false,.int .u64 0,.bool false,.int .u64 0,.bool false,.int .u64 0,.bool false,.int .u64 0,.bool false,.int .u64 0,.bool false,.int .u64 0,.bool false,.int .u64 0,.bool false,.int .u64 0,.bool false,.int .u64 0,.bool false,.int .u64 0,.bool false,.int .u64 0,.bool false,.int .u64 0,.bool false,.int .u64 0,.bool false,.int .u64 0,.bool false,.int .u64 0,.bool false,.int .u64 0,.bool false,.int .u64 0,.bool false,.int .u64 0,.bool false,.int .u64 0,.bool false,.int .u64 0,.bool false,.int .u64 0,.bool false,.int .u64 0,.bool false,.int .u64 0,.bool false,.int .u64 0,.bool false,.int .u64 0,.bool false,.int .u64 0,.bool false,.int .u64 0,.bool false,.int .u64 0,.bool false,.int .u64 0,.bool false,.int .u64 0,.bool false,.int .u64 0,.bool false,.int .u64 0,.bool false,.int .u64 0,.bool false,.int .u64 0,.bool false,.int .u64 0,.bool false,.int .u64 0,.bool false,.int .u64 0,.bool false,.int .u64 0,.bool false,.int .u64 0,.bool false,.int .u64 0,.bool false,.int .u64 0,.bool false,.int .u64 0,.bool false,.int .u64 0,.bool false,.int .u64 0,.bool false,.int .u64 0,.bool false,.int .u64 0,.bool false,.int .u64 0,.bool false,.int .u64 0,.bool false,.int .u64 0,.bool false,.int .u64 0,.bool false,.int .u64 0,.bool false,.int .u64 0,.bool false,.int .u64 0,.bool false,.int .u64 0,.bool false,.int .u64 0,.bool false,.int .u64 0,.bool false,.int .u64 0,.bool false,.int .u64 0,.bool false,.int .u64 0,.bool false,.int .u64 0,.bool false,.int .u64 0,.bool false,.int .u64 0,.bool false,.int .u64 0,.bool false,.int .u64 0,.bool false,.int .u64 0,.bool false,.int .u64 0,.bool false,.int .u64 0,.bool false,.int .u64 0,.bool false,.int .u64 0,.bool false,.int .u64 0,.bool false,.int .u64 0,.bool false,.int .u64 0,.bool false,.int .u64 0,.bool false,.int .u64 0,.bool false,.int .u64 0,.bool false,.int .u64 0,.bool false,sh,tb,pk,.int .u64 port,.slice none 0 0]
theorem zfn(a c:Value):∀(n i:Nat),i<n->(List.replicate n [a,c]).flatten[i*2]?=some a/\(List.replicate n [a,c]).flatten[i*2+1]?=some c
 |0,i,h=>by omega
 |n+1,0,_=>by simp[List.replicate_succ]
 |n+1,i+1,h=>by
  have:=zfn a c n i (by omega)
  rw[List.replicate_succ,List.flatten_cons,show(i+1)*2=i*2+1+1 by omega]
  simpa using this
theorem ziw(sh tb pk:Value)(port:Int):(qN sh tb pk port).toList=(List.replicate 106 [Value.int .u64 0,.bool false]).flatten++[sh,tb,pk,.int .u64 port,.slice none 0 0]:=rfl
theorem zca(sh tb pk:Value)(port:Int)(i:Nat)(hi:i<106):(qN sh tb pk port)[i*2]?=some (.int .u64 0)/\(qN sh tb pk port)[i*2+1]?=some (.bool false):=by
 have a:(List.replicate 106 [Value.int .u64 0,.bool false]).flatten.length=212:=rfl;have h:=zfn (.int .u64 0) (.bool false) 106 i hi;rw[<-Array.getElem?_toList,<-Array.getElem?_toList,ziw,zoL (by rw[a];omega),zoL (by rw[a];omega)]
 exact h
@[reducible] def VMD.zero:VMD:=⟨fun _=>0,fun _=>false,fun _=>0,fun _=>false,[]⟩
theorem zkF(w:World)(k:VMK):VMAt w w.heap.size k VMD.zero (w.alloc (.cells (qN (.slice k.sh.a k.sh.n k.sh.c) (.slice k.tb.a k.tb.n k.tb.c) (.slice k.pk.a k.pk.n k.pk.c) (k.port:Int)) 104)):=by
 have d:=heap_alloc_new w (.cells (qN (.slice k.sh.a k.sh.n k.sh.c) (.slice k.tb.a k.tb.n k.tb.c) (.slice k.pk.a k.pk.n k.pk.c) (k.port:Int)) 104);have b:∀o v,(qN (.slice k.sh.a k.sh.n k.sh.c) (.slice k.tb.a k.tb.n k.tb.c) (.slice k.pk.a k.pk.n k.pk.c) (k.port:Int))[o]?=some v->(w.alloc (.cells (qN (.slice k.sh.a k.sh.n k.sh.c) (.slice k.tb.a k.tb.n k.tb.c) (.slice k.pk.a k.pk.n k.pk.c) (k.port:Int)) 104)).cell? ⟨w.heap.size,o,none⟩=some v:=fun o v h=>by
  unfold World.cell?;dsimp only;rw[d];exact h
 refine⟨fun i hi=>b _ _ (zca _ _ _ _ i (by omega)).1,fun i hi=>b _ _ (zca _ _ _ _ i (by omega)).2,fun i hi=>?_,fun i hi=>?_,b _ _ rfl,b _ _ rfl,b _ _ rfl,b _ _ rfl,⟨.slice none 0 0,b _ _ rfl,zoH _ _ _ _⟩,⟨_,d⟩,zos _,ze (zof _ _),⟨fun _=>show 0<18446744073709551616 by decide,fun _=>show 0<18446744073709551616 by decide⟩,fun x e=>by cases e⟩
 ·have:=b _ _ (zca (.slice k.sh.a k.sh.n k.sh.c) (.slice k.tb.a k.tb.n k.tb.c) (.slice k.pk.a k.pk.n k.pk.c) (k.port:Int) (10+i) (by omega)).1
  rw[show(10+i)*2=20+i*2 by omega]at this
  exact this
 ·have:=b _ _ (zca (.slice k.sh.a k.sh.n k.sh.c) (.slice k.tb.a k.tb.n k.tb.c) (.slice k.pk.a k.pk.n k.pk.c) (k.port:Int) (10+i) (by omega)).2
  rw[show(10+i)*2+1=20+i*2+1 by omega]at this
  exact this
theorem Tryz.zeroMach:(Tryz.prog.info? 104).map (fun i=>i.zero)=some (some (.agg (qN (.slice none 0 0) (.slice none 0 0) (.slice none 0 0) 0))):=by kernel_rfl
theorem zix(w:World):(zeroValue 104).run Tryz.prog w=.ok (.agg (qN (.slice none 0 0) (.slice none 0 0) (.slice none 0 0) 0)) w:=by
 have h:=Tryz.zeroMach;cases hi:Tryz.prog.info? 104 with
 |none=>rw[hi]at h;cases h
 |some i=>
  rw[hi]at h;simp only[Option.map_some,zoo]at h;unfold zeroValue typeInfo;simp[hi,h]
def ziy(k:VMK)(d:ProgD)(C:VMD->InsD->Int × VMD)(H:Bool)(port:Int):zl2:=
 if(kR d H k.pk.n port).1≠0 then⟨(kR d H k.pk.n port).1,(kR d H k.pk.n port).2,0,0,[]⟩else zaQ k d.ts C d.cs d.cs.length 0 1 VMD.zero
theorem zgj{d:ProgD}{H:Bool}{n:Nat}{port:Int}(h:(kR d H n port).1=0):(xJ d.slots d.ts d.cs).1=0/\H=true/\n<=600/\0<=port/\port<=65535:=by
 unfold kR at h;by_cases a:(xJ d.slots d.ts d.cs).1≠0
 ·rw[if_pos a]at h;exact absurd h a
 rw[if_neg a]at h;by_cases h2:H=false
 ·rw[if_pos h2]at h;exact absurd h (by decide)
 rw[if_neg h2]at h;by_cases b:600<n
 ·rw[if_pos b]at h;exact absurd h (by decide)
 rw[if_neg b]at h;by_cases c:port<0\/65535<port
 ·rw[if_pos c]at h;exact absurd h (by decide)
 exact⟨by simpa using a,by simpa using h2,by omega,by omega,by omega⟩
theorem zhe{d:ProgD}{w:World}(h:d.lie w):∀x∈d.cs,x.wf:=by
 intro x b;obtain⟨i,hi,rfl⟩:=zoR b;obtain⟨g,off,_,a⟩:=h.c.2 i _ (zoh hi);exact a.wf
theorem zn6(d:ProgD)(C:VMD->InsD->Int × VMD)(tb pk:QSl)(zs:List Int)(H:Bool)(port:Int)(w:World)(hl:d.lie w)(hs:d.small)(Z:Has .u8 w pk.a pk.n zs)(y:pk.nil0)(B:pk.n<=pk.c)(W:∀w',Below w.heap.size w w'->Calls Tryz.prog 52 #[.slice tb.a tb.n tb.c,.slice d.tabs.a d.tabs.n d.tabs.c] w' (zw H w'))(a2:H=true->(xJ d.slots d.ts d.cs).1=0->∀x∈d.cs,x.op≠13):
 Calls Tryz.prog 12 #[d.v,.slice tb.a tb.n tb.c,.slice pk.a pk.n pk.c,.int .i64 port] w (RunDone w (ziy ⟨d.tabs,tb,pk,zs,port.toNat⟩ d C H port)):=by
 obtain⟨t,hW1⟩:∃t,t=((w.alloc (.cells #[.int .i64 d.slots,.slice d.tabs.a d.tabs.n d.tabs.c,.slice d.code.a d.code.n d.code.c] 44)).alloc (.cells #[.int .i64 0,.slice none 0 0] 50)).alloc (.cells #[.int .i64 0,.int .i64 0] 34):=⟨_,rfl⟩;obtain⟨pb,hpb⟩:∃b,b=w.heap.size:=⟨_,rfl⟩;obtain⟨rb,hrb⟩:∃b,b=w.heap.size+1:=⟨_,rfl⟩;obtain⟨fb,hfb⟩:∃b,b=w.heap.size+1+1:=⟨_,rfl⟩;have b1:Below w.heap.size w t:=by rw[hW1];exact ze (ze (ze (zof _ _)))
 have PB:Hid (PBox d t pb):=by rw[hW1,hpb];exact(za7 d w).step (ze (ze (zof _ _)))
 have RB:Hid (RBox rb fb t):=by
  refine⟨?_,?_⟩
  ·rw[hW1,hrb];have:=heap_alloc_new (w.alloc (.cells #[.int .i64 d.slots,.slice d.tabs.a d.tabs.n d.tabs.c,.slice d.code.a d.code.n d.code.c] 44)) (.cells #[.int .i64 0,.slice none 0 0] 50);rw[(ze (o:=.cells #[.int .i64 0,.int .i64 0] 34) (zof ((w.alloc (.cells #[.int .i64 d.slots,.slice d.tabs.a d.tabs.n d.tabs.c,.slice d.code.a d.code.n d.code.c] 44)).alloc (.cells #[.int .i64 0,.slice none 0 0] 50)).heap.size _)).block (w.heap.size+1) (by simp)]
   simpa using this
  ·rw[hW1,hfb];have:=heap_alloc_new ((w.alloc (.cells #[.int .i64 d.slots,.slice d.tabs.a d.tabs.n d.tabs.c,.slice d.code.a d.code.n d.code.c] 44)).alloc (.cells #[.int .i64 0,.slice none 0 0] 50)) (.cells #[.int .i64 0,.int .i64 0] 34);simpa using this
 have q:=hid (zm9 d (.slice tb.a tb.n tb.c) H pk.a pk.n pk.c port t (hl.step b1) hs (fun w' h=>W w' (zh b1 h)))
 have g:Hid (rb≠fb/\w.heap.size<=rb/\w.heap.size<=fb):=⟨by omega,by omega,by omega⟩
 have HB:=hid b1;have HL:=hid hl;have Q:=hid Z;have U:=hid y;have a1:=hid B;have a6:Hid _:=a2;have EW:=hid hW1;have EP:=hid hpb;have ER:=hid hrb;have EF:=hid hfb;obtain⟨R,hR⟩:∃R,R=ziy ⟨d.tabs,tb,pk,zs,port.toNat⟩ d C H port:=⟨_,rfl⟩;rw[<-hR];have HR:=hid hR;dsimp only[ProgD.v,za6]at q ⊢;obtain⟨S,hS⟩:∃S,S=kR d H pk.n port:=⟨_,rfl⟩;rw[<-hS]at q;have k:=hid hS;obtain⟨kc,ka⟩:=S;clear hl hs Z y B W a2 hW1 hpb hrb hfb b1 hR hS;go_enter Tryz.func12,Tryz.ntmps12
 go_upto_region 1 with fail
 rw[<-EW.out,<-EF.out,<-ER.out,<-EP.out];clear EW EF ER EP;obtain⟨A,p1,p2⟩:=PB.out;have l:pb<t.heap.size:=zog _ _ A;go_wp2_with fail
 refine q.out.mono ?_;rintro e w2 ⟨rfl,K⟩;clear q A p1 p2 l;obtain⟨j,hW3⟩:∃j,j=w2.alloc (.cells #[.int .i64 kc,.int .i64 ka] 34):=⟨_,rfl⟩;obtain⟨qb,hqb⟩:∃b,b=w2.heap.size:=⟨_,rfl⟩;have b3:Below t.heap.size t j:=by rw[hW3];exact ze K
 have q0:j.cell? ⟨qb,0,none⟩=some (.int .i64 kc):=by rw[hW3,hqb];simp
 have q1:j.cell? ⟨qb,1,none⟩=some (.int .i64 ka):=by rw[hW3,hqb];simp
 have b5:qb<j.heap.size:=zog _ _ q0;have M:=hid (RB.out.step b3);have s:=hid (zh HB.out b3);have a0:=hid (PB.out.step b3);have E3:=hid hW3;have EQ:=hid hqb;have a3:qb≠rb/\qb≠fb:=by
  have h1:=(zoj.1 RB.out.r).1;have h2:=(zoj.1 RB.out.f).1;have h3:=K.size;omega
 obtain⟨b0,b2⟩:=a3;clear K hW3 hqb b3;go_upto_region 2 with fail
 rw[<-E3.out,<-EQ.out];clear E3 EQ;by_cases hk:kc=0
 ·subst hk;obtain⟨F,Y,X,a7,a5⟩:=zgj (show(kR d H pk.n port).1=0 by rw[<-k.out])
  obtain⟨pt,rfl⟩:∃i:Nat,port=i:=⟨port.toNat,by omega⟩
  have hr:=HR.out;unfold ziy at hr;dsimp only at hr;rw[<-k.out,if_neg (show¬(0:Int)≠0 by decide),zov]at hr
  have J:=HL.out.step s.out;obtain⟨u,-⟩:=znM (zhe J) F;obtain⟨O,hW4⟩:∃O,O=j.alloc (.cells (qN (.slice d.tabs.a d.tabs.n d.tabs.c) (.slice tb.a tb.n tb.c) (.slice pk.a pk.n pk.c) (pt:Int)) 104):=⟨_,rfl⟩;obtain⟨mb,hmb⟩:∃b,b=j.heap.size:=⟨_,rfl⟩;have N:VMAt j mb ⟨d.tabs,tb,pk,zs,pt⟩ VMD.zero O:=by rw[hW4,hmb];exact zkF j ⟨d.tabs,tb,pk,zs,pt⟩
  have D:=hid (zn8 d.ts C N ⟨Q.out.step s.out,U.out,X,a1.out,by show pt<65536;omega⟩ d.cs d.code J.c u (a6.out Y F) rfl)
  rw[<-hr]at D;have b4:Below j.heap.size j O:=by rw[hW4];exact ze (zof _ _)
  have a8:=hid (a0.out.step b4);obtain⟨A,p1,p2⟩:=a0.out;have l:pb<j.heap.size:=zog _ _ A;have b7:=xF (pt:Int) (by omega) (by omega)
  have E4:=hid hW4;have EM:=hid hmb;dsimp only[qN]at E4;clear hW4 hmb N hr u J F Y X a7 a5 HR k b4 PB Q;have a4:=zix j;dsimp only[qN]at a4;go_upto_region 5 with fail
  rw[<-E4.out,<-EM.out];clear E4 EM A p1 l;obtain⟨A,p1,p2⟩:=a8.out;have l:pb<O.heap.size:=zog _ _ A;go_wp2_with fail
  refine D.out.mono ?_;rintro e w5 ⟨v,rfl,⟨a,cc,rfl,hh,I,m⟩,L⟩;have G:=hid (M.out.step L);obtain⟨k0,k1,k2,k3,k4,k5,k6,k7,k8,k9⟩:=G.out.cells;have a9:=g.out.1;obtain⟨V,ra,rn,rp,ro⟩:=R;dsimp only at hh I m ⊢;obtain⟨P,hol⟩:∃P,P=ro.length:=⟨_,rfl⟩;rw[<-hol]at hh m ⊢;have HD:Hid (RunDone w ⟨V,ra,rn,rp,ro⟩ (.returned (.tuple #[.agg #[.int .i64 rp,.slice a P cc],.int .i64 rn,.agg #[.int .i64 V,.int .i64 ra]])) ((((w5.setCell ⟨rb,0,none⟩ (.int .i64 rp)).setCell ⟨rb,1,none⟩ (.slice a P cc)).setCell ⟨fb,0,none⟩ (.int .i64 V)).setCell ⟨fb,1,none⟩ (.int .i64 ra))):=by
   obtain⟨T,E⟩:=zcb (port:=rp) (c:=V) (i:=ra) (cc:=cc) G.out g.out.1 g.out.2.1 g.out.2.2 (zh s.out L) hh;refine⟨_,rfl,⟨a,cc,?_,?_,I,?_⟩,E⟩
   ·rw[<-hol]
   ·rw[<-hol];exact T
   ·rw[<-hol];exact m
  clear hh I m L hol G D A p1 p2 l;go_wp2;exact bodyPost_ret (v:=.tuple #[.agg #[.int .i64 rp,.slice a P cc],.int .i64 rn,.agg #[.int .i64 V,.int .i64 ra]]) (by simp[results,Tryz.results12,go_sem, *]) rfl HD.out
 ·have b6:(kc !=0)=true:=by simpa using hk
  obtain⟨k0,k1,k2,k3,k4,k5,k6,k7,k8,k9⟩:=M.out.cells;have a9:=g.out.1;have HD:Hid (RunDone w R (.returned (.tuple #[.agg #[.int .i64 0,.slice none 0 0],.int .i64 0,.agg #[.int .i64 kc,.int .i64 ka]])) ((((j.setCell ⟨rb,0,none⟩ (.int .i64 0)).setCell ⟨rb,1,none⟩ (.slice none 0 0)).setCell ⟨fb,0,none⟩ (.int .i64 kc)).setCell ⟨fb,1,none⟩ (.int .i64 ka)).drew):=by
   obtain⟨_,E⟩:=zcb (port:=0) (c:=kc) (i:=ka) (cc:=0) M.out g.out.1 g.out.2.1 g.out.2.2 s.out (zW .u8 j);have hr:=HR.out;unfold ziy at hr;dsimp only at hr;rw[<-k.out,if_pos hk]at hr;rw[hr];exact⟨_,rfl,⟨none,0,rfl,zW _ _,fun _=>⟨rfl,rfl⟩,zos _⟩,E.drew⟩
  clear HR k;go_wp2_with fail
  go_region_law (fail)
  all_goals
   go_wp2;exact bodyPost_ret (v:=.tuple #[.agg #[.int .i64 0,.slice none 0 0],.int .i64 0,.agg #[.int .i64 kc,.int .i64 ka]]) (by simp[results,Tryz.results12,go_sem, *]) rfl HD.out
theorem zee{w:World}{a b:Option Addr}{len:Nat}{zs:List Int}(port:Int)(c e:Nat)(ha:Has .u8 w a len zs)(hb:Has .u8 w b len zs):
 Calls Tryz.prog 13 #[.agg #[.int .i64 port,.slice a len c],.agg #[.int .i64 port,.slice b len e]] w (zw true w):=by
 have HC:Hid (∀w',Below w.heap.size w w'->Calls Tryz.prog 27 #[.slice a len c,.slice b len e] w' fun q d=>q=.returned (.bool true)/\d=w'):=fun w' h=>zgf c e (ha.step h) (hb.step h)
 clear ha hb;go_enter Tryz.func13,Tryz.ntmps13
 go_wp2_with fail
 refine(HC.out _ (ze (ze (zof _ _)))).mono ?_;rintro q f ⟨rfl,rfl⟩;clear HC;go_wp2;go_ret;exact⟨rfl,ze (ze (zof _ _))⟩
def jf(s:Nat)(os:List POp)(w:World)(e:Ending)(w':World):Prop:=e=.returned (.tuple #[.int .u64 (yH s os:Nat),.bool (!zH s os)])/\Below w.heap.size w w'
theorem zjl{s t:Nat}{os:List POp}{k:Nat}{o:POp}{B a:Bool}(h:(!zH s os)=(B||!zH t (os.drop k)))(b:os[k]?=some o)(c:a=(B||!yr t o)):(!zH s os)=(a||!zH (yN t o) (os.drop (k+1))):=by
 rw[h,zcl b,c];cases B<;>cases yr t o<;>rfl
theorem zcs(s:Nat)(b:Nat)(hs:s<2^64)(hb:b<2^64):IntKind.u64.wrap ((s:Int)-bits .and .u64 (s:Int) (b:Int))=((s-(s&&& b):Nat):Int):=by
 rw[kS s b hs hb];have a:s&&& b<=s:=Nat.and_le_left;have e:(s:Int)-((s&&& b:Nat):Int)=((s-(s&&& b):Nat):Int):=by omega
 rw[e];simp[IntKind.wrap,IntKind.bits,IntKind.signed];omega
theorem zjm(d:PlanD)(s k:Nat)(a:ActD){w:World}(hl:d.lie w)(hs:s<2^64)(hk:k<d.acts.n)(hx:d.al[k]?=some a)(ho:∀o∈a.p.os,zaZ o)(N:a.p.os.length<=5):
 Calls Tryz.prog 32 #[d.v,.int .i64 (k:Int),.int .u64 (s:Int)] w (jf s a.p.os w):=by
 obtain⟨ag,ao,a',ea,P,hp⟩:=zu hl.al hk;obtain rfl:a=a':=by rw[hx]at P;exact zoq P
 obtain⟨⟨k0,_⟩,⟨k1,_⟩,_,K⟩:=hp;have b7:a.ops.n<=5:=by have U:=K.1;simp only[ActD.p,zoE]at N;omega
 obtain⟨I,hW⟩:∃I,I=w.alloc d.box:=⟨_,rfl⟩;obtain⟨b,hb⟩:∃b,b=w.heap.size:=⟨_,rfl⟩;have b1:Below w.heap.size w I:=by rw[hW];exact ze (zof _ _)
 have O:I.cell? ⟨b,3,none⟩=some (.slice (some ⟨ag,ao,none⟩) d.acts.n d.acts.c):=by rw[hW,hb,<-ea];exact(zod _ _ _ _ rfl).trans rfl
 have q1:=za k1 b1;have b6:(k:Int)<(d.acts.n:Int):=by omega
 have b2:(0:Int)<=(k:Int):=by omega
 have b3:=hid b1;have W:=hid (K.step OpD.keeps b1);have HO:=hid ho;have HS:=hid hs;have EW:=hid hW;have EB:=hid hb;have a0:Hid (Below I.heap.size I I):=zof _ _;have a1:Hid (∀j,yH s (a.p.os.take j)<2^64):=fun j=>qQ hs fun o h e=>by
  have:=(ho o (List.mem_of_mem_take h)).head (by omega)
  omega
 have HZ:Hid (I.cell? ⟨b,3,none⟩=some (.slice (some ⟨ag,ao,none⟩) d.acts.n d.acts.c)/\I.cell? ⟨ag,ao+k*2+1,none⟩=some (.slice a.ops.a a.ops.n a.ops.c)):=⟨O,q1⟩;obtain⟨S,ee2⟩:∃S,a.ops.a=S:=⟨_,rfl⟩;have EE:=hid ee2;rw[ee2]at HZ;have HD:Hid (∀w' (t:Nat) (B:Bool),t=yH s a.p.os->(!zH s a.p.os)=B->Below I.heap.size I w'->jf s a.p.os w (.returned (.tuple #[.int .u64 (t:Int),.bool B])) w'):=fun w' t B U h2 h=>⟨by rw[U,h2],zh b1 h⟩
 clear hl hs hx P ho N K hW hb b1 k0 k1 ea hk O q1 ee2;go_enter Tryz.func32,Tryz.ntmps32
 go_wp2_with fail
 rw[<-EW.out,<-EB.out];clear EW EB;go_loopw [9,8,2,10] (fun q a2 mu _ wr=>∃j:Nat,∃B:Bool,∃t:Nat,j<=a.ops.n/\q=.int .i64 j/\a2=.bool B/\mu=.int .u64 (t:Int)/\Hid (t=yH s (a.p.os.take j))/\Hid ((!zH s a.p.os)=(B||!zH t (a.p.os.drop j)))/\Hid (Below I.heap.size I wr)) (fun q _ _ _ _=>a.ops.n-(intOf q).toNat)
 case atStart=>exact⟨0,false,s,zon _,rfl,rfl,rfl,rfl,by show _=_;simp,a0⟩
 case round=>
  obtain⟨j,B,t,hj,rfl,rfl,rfl,HT,HG,Z⟩:=hrel;clear a0;have O:=za HZ.out.1 Z.out;have q1:=za HZ.out.2 Z.out;by_cases a6:j<a.ops.n
  ·obtain⟨og,oo,o,X,Y,a9⟩:=zu (W.out.step OpD.keeps Z.out) a6;obtain rfl:S=some ⟨og,oo,none⟩:=by rw[<-EE.out];exact X
   obtain⟨kind,⟨m,x⟩,head,e,es⟩:=o;obtain⟨⟨c0,_⟩,⟨c1,_⟩,⟨c2,_⟩,⟨c3,_⟩,⟨c4,_⟩,T⟩:=a9;simp only at c0 c1 c2 c3 c4 T;have a8:(j:Int)<(a.ops.n:Int):=by omega
   have b0:(0:Int)<=(j:Int):=by omega
   have M:a.p.os[j]?=some (OpD.p ⟨kind,⟨m,x⟩,head,e,es⟩):=by show(a.os.map OpD.p)[j]?=_;rw[zoy,Y];rfl
   have Q:=HO.out _ (zol M);have V:t<2^64:=by rw[HT.out];exact a1.out j
   have i:Hid (yN t (OpD.p ⟨kind,⟨m,x⟩,head,e,es⟩)=yH s (a.p.os.take (j+1))):=by show _=_;rw[zcm M,<-HT.out]
   have g:Hid (∀B',B'=(B||!yr t (OpD.p ⟨kind,⟨m,x⟩,head,e,es⟩))->(!zH s a.p.os)=(B'||!zH (yN t (OpD.p ⟨kind,⟨m,x⟩,head,e,es⟩)) (a.p.os.drop (j+1)))):=fun B' h=>zjl HG.out M h
   have l:=hid (fun ob=>zh Z.out (ze (zof wr.heap.size wr) (o:=ob)))
   have f:=hid Q;have u:=hid V;have y:=hid T;have a3:=Q.kind;simp only[OpD.p]at a3;clear Y M Q V T X HG HT;rcases(show kind=1\/kind=2\/kind=3\/kind=4\/kind=5\/kind=6 by omega)with rfl|rfl|rfl|rfl|rfl|rfl
   ·have D:Hid (yr t (OpD.p ⟨1,⟨m,x⟩,head,e,es⟩)=(zL t es&&yc t m)):=rfl;have F:Hid (∀w',Below wr.heap.size wr w'->Calls Tryz.prog 33 #[.slice e.a e.n e.c,.int .u64 (t:Int)] w' fun q r=>q=.returned (.bool (!zL t es))/\Below w'.heap.size w' r):=fun w' h=>zbx t e es w' u.out (y.out.step PushD.keeps h) (f.out.tree (by simp[OpD.p])) (by have U:=f.out.few (by simp[OpD.p]);have h2:=y.out.1;simp only[OpD.p]at U;omega)
    have G:Hid (∀w',Calls Tryz.prog 31 #[.agg #[.int .i64 m,.int .i64 x],.int .u64 (t:Int)] w' fun q r=>q=.returned (.bool (!yc t m))/\Below w'.heap.size w' r):=fun w'=>zaq t m x u.out (f.out.ref (by simp[OpD.p])) w'
    have E:Hid (yN t (OpD.p ⟨1,⟨m,x⟩,head,e,es⟩)=t):=rfl;rw[E.out]at i g;generalize zL t es=B1 at*;generalize yc t m=B2 at*;generalize yr t (OpD.p ⟨1,⟨m,x⟩,head,e,es⟩)=DK at*;clear f y u E;cases B with
    |true=>
     go_wp2;go_roundw
     case rel=>exact⟨j+1,_,_,by omega,by go_num,rfl,rfl,i,g.out _ (by rw[D.out];rfl),l.out _⟩
     case measure=>simp[intOf];omega
    |false=>
     cases B1 with
     |false=>
      go_wp2_with fail
      refine(F.out _ (ze (zof _ _))).mono ?_;rintro q w1 ⟨rfl,A⟩;have C:=hid (zh (l.out _) A);clear c0 c1 c2 c3 c4 O q1;clear F G A l;go_wp2;go_roundw
      case rel=>exact⟨j+1,_,_,by omega,by go_num,rfl,rfl,i,g.out _ (by rw[D.out];rfl),C⟩
      case measure=>simp[intOf];omega
     |true=>
      go_wp2_with fail
      refine(F.out _ (ze (zof _ _))).mono ?_;rintro q w1 ⟨rfl,A⟩;have C:=hid (zh (l.out _) A);have m1:w1.cell? ⟨wr.heap.size,1,none⟩=some (.int .i64 m):=(A.cell (p:=⟨wr.heap.size,1,none⟩) (by simp)).trans ((zod _ _ _ _ rfl).trans rfl)
      have m2:w1.cell? ⟨wr.heap.size,2,none⟩=some (.int .i64 x):=(A.cell (p:=⟨wr.heap.size,2,none⟩) (by simp)).trans ((zod _ _ _ _ rfl).trans rfl)
      clear c0 c1 c2 c3 c4 O q1;clear F A l;go_wp2_with fail
      refine(G.out _).mono ?_;rintro q w2 ⟨rfl,J⟩;have L:=hid (zh C.out J);clear G J C m1 m2;go_wp2;go_roundw
      case rel=>exact⟨j+1,_,_,by omega,by go_num,rfl,rfl,i,g.out _ (by rw[D.out];rfl),L⟩
      case measure=>simp[intOf];omega
   ·have H:Hid (∀w',Calls Tryz.prog 30 #[.int .i64 head] w' fun q r=>q=.returned (.int .u64 (zv head))/\r=w'):=fun w'=>jX head (f.out.head (by simp[OpD.p])).1 (f.out.head (by simp[OpD.p])).2 w'
    have b5:=zbt t (zv head) u.out (xW (f.out.head (by simp[OpD.p])).2)
    have E:Hid (yN t (OpD.p ⟨2,⟨m,x⟩,head,e,es⟩)=t|||zv head):=rfl
    have D:Hid (yr t (OpD.p ⟨2,⟨m,x⟩,head,e,es⟩)=true):=rfl;rw[E.out]at i g;rw[D.out]at g;clear f y u E D;generalize t|||zv head=R at*
    generalize zv head=N6 at*;go_wp2_with (go_at_call 30;refine(H.out _).mono ?_;rintro q w' ⟨rfl,rfl⟩)
    go_roundw
    case rel=>exact⟨j+1,_,_,by omega,by go_num,rfl,rfl,i,g.out _ (by simp),l.out _⟩
    case measure=>simp[intOf];omega
   ·have H:Hid (∀w',Calls Tryz.prog 30 #[.int .i64 head] w' fun q r=>q=.returned (.int .u64 (zv head))/\r=w'):=fun w'=>jX head (f.out.head (by simp[OpD.p])).1 (f.out.head (by simp[OpD.p])).2 w'
    have b4:=zcs t (zv head) u.out (xW (f.out.head (by simp[OpD.p])).2)
    have E:Hid (yN t (OpD.p ⟨3,⟨m,x⟩,head,e,es⟩)=t-(t&&& zv head)):=rfl;have D:Hid (yr t (OpD.p ⟨3,⟨m,x⟩,head,e,es⟩)=true):=rfl;rw[E.out]at i g;rw[D.out]at g;clear f y u E D;generalize t-(t&&& zv head)=R at*;generalize zv head=N6 at*;go_wp2_with (go_at_call 30;refine(H.out _).mono ?_;rintro q w' ⟨rfl,rfl⟩)
    go_roundw
    case rel=>exact⟨j+1,_,_,by omega,by go_num,rfl,rfl,i,g.out _ (by simp),l.out _⟩
    case measure=>simp[intOf];omega
   ·have E:Hid (yN t (OpD.p ⟨4,⟨m,x⟩,head,e,es⟩)=t):=rfl;have D:Hid (yr t (OpD.p ⟨4,⟨m,x⟩,head,e,es⟩)=true):=rfl;rw[E.out]at i g;rw[D.out]at g;clear f y u E D;go_wp2;go_roundw
    case rel=>exact⟨j+1,_,_,by omega,by go_num,rfl,rfl,i,g.out _ (by simp),l.out _⟩
    case measure=>simp[intOf];omega
   ·have D:Hid (yr t (OpD.p ⟨5,⟨m,x⟩,head,e,es⟩)=zL t es):=rfl;have F:Hid (∀w',Below wr.heap.size wr w'->Calls Tryz.prog 33 #[.slice e.a e.n e.c,.int .u64 (t:Int)] w' fun q r=>q=.returned (.bool (!zL t es))/\Below w'.heap.size w' r):=fun w' h=>zbx t e es w' u.out (y.out.step PushD.keeps h) (f.out.tree (by simp[OpD.p])) (by have U:=f.out.few (by simp[OpD.p]);have h2:=y.out.1;simp only[OpD.p]at U;omega)
    have E:Hid (yN t (OpD.p ⟨5,⟨m,x⟩,head,e,es⟩)=t):=rfl;rw[E.out]at i g;generalize zL t es=B1 at*;generalize yr t (OpD.p ⟨5,⟨m,x⟩,head,e,es⟩)=DK at*;clear f y u E;cases B with
    |true=>
     go_wp2;go_roundw
     case rel=>exact⟨j+1,_,_,by omega,by go_num,rfl,rfl,i,g.out _ (by rw[D.out];rfl),l.out _⟩
     case measure=>simp[intOf];omega
    |false=>
     go_wp2_with fail
     refine(F.out _ (ze (zof _ _))).mono ?_;rintro q w1 ⟨rfl,A⟩;have C:=hid (zh (l.out _) A);clear c0 c1 c2 c3 c4 O q1;clear F A l;go_wp2;go_roundw
     case rel=>exact⟨j+1,_,_,by omega,by go_num,rfl,rfl,i,g.out _ (by rw[D.out];rfl),C⟩
     case measure=>simp[intOf];omega
   ·have D:Hid (yr t (OpD.p ⟨6,⟨m,x⟩,head,e,es⟩)=(yc t m&&yc t head)):=rfl;have H:Hid (∀w',Calls Tryz.prog 30 #[.int .i64 head] w' fun q r=>q=.returned (.int .u64 (zv head))/\r=w'):=fun w'=>jX head (f.out.head (by simp[OpD.p])).1 (f.out.head (by simp[OpD.p])).2 w'
    have G:Hid (∀w',Calls Tryz.prog 31 #[.agg #[.int .i64 m,.int .i64 x],.int .u64 (t:Int)] w' fun q r=>q=.returned (.bool (!yc t m))/\Below w'.heap.size w' r):=fun w'=>zaq t m x u.out (f.out.ref (by simp[OpD.p])) w'
    have a7:=zgQ (f.out.head (by simp[OpD.p])).1 (f.out.head (by simp[OpD.p])).2 u.out
    simp only[OpD.p]at a7;have E:Hid (yN t (OpD.p ⟨6,⟨m,x⟩,head,e,es⟩)=t):=rfl;rw[E.out]at i g;generalize yc t head=B1 at*;generalize yc t m=B2 at*;generalize yr t (OpD.p ⟨6,⟨m,x⟩,head,e,es⟩)=DK at*;generalize zv head=N6 at*;clear f y u E;cases B with
    |true=>
     go_wp2;go_roundw
     case rel=>exact⟨j+1,_,_,by omega,by go_num,rfl,rfl,i,g.out _ (by rw[D.out];rfl),l.out _⟩
     case measure=>simp[intOf];omega
    |false=>
     cases B1 with
     |false=>
      go_wp2_with (go_at_call 30;refine(H.out _).mono ?_;rintro q w' ⟨rfl,rfl⟩)
      go_roundw
      case rel=>exact⟨j+1,_,_,by omega,by go_num,rfl,rfl,i,g.out _ (by rw[D.out];cases B2<;>rfl),l.out _⟩
      case measure=>simp[intOf];omega
     |true=>
      go_wp2_with (go_at_call 30;refine(H.out _).mono ?_;rintro q w' ⟨rfl,rfl⟩)
      refine(G.out _).mono ?_;rintro q w2 ⟨rfl,J⟩;have L:=hid (zh (l.out _) J);clear c0 c1 c2 c3 c4 O q1;clear G J l;go_wp2;go_roundw
      case rel=>exact⟨j+1,_,_,by omega,by go_num,rfl,rfl,i,g.out _ (by rw[D.out];cases B2<;>rfl),L⟩
      case measure=>simp[intOf];omega
  ·have a8:¬(j:Int)<(a.ops.n:Int):=by omega
   have ej:a.p.os.length=a.ops.n:=by simp only[ActD.p,zoE];exact W.out.1
   have a4:Hid (t=yH s a.p.os):=by show _=_;rw[HT.out,List.take_of_length_le (by omega)]
   have a5:Hid ((!zH s a.p.os)=B):=by
    show _=_;rw[HG.out,List.drop_of_length_le (by omega)]
    cases B<;>rfl
   clear HT HG ej;go_wp2;go_ret2
   exact HD.out _ _ _ a4.out a5.out Z.out
end Go.Proofs.YtdajaaondlekfaaGreat
