import Derived.Test.YtdajaaondlekfaaGreatG9
import Derived.Test.YtdajaaondlekfaaGreatG7
import Derived.Deep.RegionHeld3
import Derived.Test.YtdajaaondlekfaaGreatG18
import Derived.Test.YtdajaaondlekfaaGreatG14
import Derived.Test.YtdajaaondlekfaaGreatG6
import Derived.Test.YtdajaaondlekfaaGreatG1
set_option maxHeartbeats 8000000
set_option maxRecDepth 20000
set_option linter.unusedSimpArgs false
namespace Go.Proofs.YtdajaaondlekfaaGreat
open Go.RowKit
theorem St.put{u s:World}{B pa:Nat}{cs:List InsD}{ms:List Int}{w:World}(h:St s B pa cs ms w)(c:BC u s){g:Nat}{n:Array Value}{T:TypeId}(hb:s.heap[g]?=some (.cells n T (0,0)))(F:n≠#[])(H:u.heap.size<=g)(i:Nat)(v:Value):
 ∃t,St t B pa cs ms (w.setCell ⟨g,i,none⟩ v)/\BC u t/\t.heap[g]?=some (.cells (n.setIfInBounds i v) T (0,0))/\∀(k:Nat) (l:Array Value) (m:TypeId) (f:Nat × Nat),k≠g->s.heap[k]?=some (.cells l m f)->l≠#[]->t.heap[k]?=some (.cells l m f):=by
 obtain⟨d,h,r⟩:=h;have no:∀(k:Nat) (l:Array Value) (m:TypeId) (f:Nat × Nat),s.heap[k]?=some (.cells l m f)->l≠#[]->¬d.own k:=fun k l m f j b G=>by
  have h0:0<l.size:=Nat.pos_of_ne_zero fun e=>b (Array.eq_empty_of_size_eq_zero e)
  exact h.ap k G 0 l[0] (by rw[zj j];exact zoT h0)
 have A:=no g _ _ _ hb F;have hw:=h.bc.2 g _ _ _ hb F;have a:∀k,k≠g->(w.setCell ⟨g,i,none⟩ v).heap[k]?=w.heap[k]?:=fun k j=>zop _ _ _ _ (by exact j)
 have E:LabAt 132 B d (w.setCell ⟨g,i,none⟩ v):=h.lab.blk fun k j=>a k fun e=>A (e▸j)
 have x:MK (mask d.own (fun _=>Classical.propDecidable _) (w.setCell ⟨g,i,none⟩ v)) B d (w.setCell ⟨g,i,none⟩ v):=by
  refine⟨E,zd1 _ _,fun k j o v' C=>?_,by rw[zow];exact h.lo⟩
  have q:=(E.lows j).2;simp only[World.cell?,kZ j q]at C;simp at C
 refine⟨_,⟨d,x,r⟩,⟨?_,fun k l m f j b=>?_⟩,?_,fun k l m f y j b=>?_⟩
 ·rw[yb,zow];exact zoz c.1 h.bc.1
 ·have D:=c.2 k l m f j b;have q:=(zoj.1 j).1;rw[yA (no k _ _ _ D b),a k (by omega)]
  exact h.bc.2 k l m f D b
 ·rw[yA A];exact yx hw i v
 ·rw[yA (no k _ _ _ j b),a k y];exact h.bc.2 k l m f j b
theorem St.bc2{a:World}{B pa:Nat}{cs:List InsD}{ms:List Int}{w:World}(h:St a B pa cs ms w):∀(k:Nat) (c:Array Value) (T:TypeId) (f:Nat × Nat),a.heap[k]?=some (.cells c T f)->c≠#[]->w.heap[k]?=some (.cells c T f):=by
 obtain⟨d,h,_⟩:=h;exact h.bc.2
def zjK(b:World)(B pa m:Nat)(cs:List InsD)(ms:List Int)(w:World)(e:Ending)(w':World):Prop:=
 ∃a g,w.heap.size<=g/\e=.returned (.slice (some ⟨g,0,none⟩) m m)/\St a B pa cs (ms++List.replicate m (-1)) w'/\BC b a/\Has .i64 a (some ⟨g,0,none⟩) m (yV ms.length m)/\Below B w w'
theorem zgX{f:World}{B pa mb:Nat}{cs:List InsD}{ms:List Int}{w:World}(F:f.cell? ⟨mb,7,none⟩=some (.pointer (some ⟨pa,0,none⟩)))(h:St f B pa cs ms w)(m:Nat)(hm:m<=1000)(Z:ms.length<=1000):Calls Tryz.prog 38 #[.pointer (some ⟨mb,0,none⟩),.int .i64 (m:Int)] w (zjK f B pa m cs ms w):=by
 obtain⟨I,hw1⟩:∃I,I=w.alloc (.cells (Array.replicate m (.int .i64 0)) 3):=⟨_,rfl⟩;obtain⟨g,hg⟩:∃g,g=w.heap.size:=⟨_,rfl⟩;have L:Below w.heap.size w I:=by rw[hw1];exact ze (zof _ _)
 obtain⟨W,V,c1,r⟩:=h.wide L;have T:IRow W g (jo ms.length m 0):=(r g (by omega)).trans (by rw[hw1,hg,zbC];exact zcD w m)
 have P:=zjE m hm;have D:=hid (L.mono h.lo);have E:Hid (∃a,St a B pa cs (ms++List.replicate 0 (-1)) I/\BC f a/\IRow a g (jo ms.length m 0)):=⟨W,by simpa using V,c1,T⟩
 have Y:Hid (f.heap.size<=g):=by show _<=_;rw[hg];exact h.cov.1
 have K:=hid F;have N:=hid h.lo;have EW:=hid hw1;have O:=hid hg;clear F h hw1 hg L V c1 r T;go_enter Tryz.func38,Tryz.ntmps38
 go_wp2;rw[<-EW.out,<-O.out];clear P;go_loopw [11,6] (fun k _ wr=>∃i:Nat,i<=m/\k=.int .i64 i/\Hid ((∃a,St a B pa cs (ms++List.replicate i (-1)) wr/\BC f a/\IRow a g (jo ms.length m i))/\Below B w wr)) (fun k _ _=>m-(intOf k).toNat)
 case atStart=>exact⟨0,zon _,rfl,E.out,D.out⟩
 case round=>
  obtain⟨i,hi,rfl,J⟩:=hrel;obtain⟨⟨a,t,G,A⟩,JB⟩:=J.out;clear J;by_cases o:i<m
  ·have Q:(i:Int)<(m:Int):=by omega
   have c7:=t.cov.2 _ _ _ (G.cov.2 _ _ _ K.out);have hl:=zog _ _ c7;have c:=hid (zcA t (by simp;omega))
   have y:((jo ms.length m i).map (Value.int .i64)).toArray≠#[]:=by
    intro e;have:=congrArg Array.size e;simp[zbf hi]at this;omega
   have n:=hid y;have d:(ms++List.replicate i (-1:Int)).length=ms.length+i:=by simp
   have C:=hid G;have j:=hid A;have x:=hid JB;rw[d]at c;clear t G A JB y d;obtain⟨q,hq⟩:∃q,q=ms.length+i:=⟨_,rfl⟩;rw[<-hq]at c;have X:=hid hq;clear hq;go_wp2_with fail
   refine c.out.mono ?_;rintro e H ⟨rfl,M,u⟩;have b:=M.bc2 _ _ _ _ j.out n.out;have cz:=IRow.cell (w:=H) (g:=g) (l:=jo ms.length m i) (i:=i) b (by rw[zbf hi];exact o)
   have fz:=IRow.fz (w:=H) (g:=g) (l:=jo ms.length m i) b i;have a0:=zog _ _ cz;obtain⟨W2,S,R,U,_⟩:=M.put C.out j.out n.out Y.out i (.int .i64 (q:Int));have NX:Hid ((∃a,St a B pa cs (ms++List.replicate (i+1) (-1)) (H.setCell ⟨g,i,none⟩ (.int .i64 (q:Int)))/\BC f a/\IRow a g (jo ms.length m (i+1)))/\Below B w (H.setCell ⟨g,i,none⟩ (.int .i64 (q:Int)))):=by
    refine⟨⟨W2,?_,R,?_⟩,(x.out.trans u).setCell (p:=⟨g,i,none⟩) ?_ _⟩
    ·rw[List.replicate_succ',<-List.append_assoc];exact S
    ·rw[<-zbD o];unfold IRow;rw[U,X.out];congr 1
     congr 1
     apply Array.ext'
     simp[List.map_set]
    ·show B<=g;rw[O.out];exact N.out
   clear M u b S R U c n j C x;generalize(jo ms.length m i).getD i 0=z at*;go_wp2;go_roundw
   case rel=>exact⟨i+1,by omega,by go_num,NX.out⟩
   case measure=>simp[intOf];omega
  ·have Q:¬(i:Int)<(m:Int):=by omega
   obtain rfl:i=m:=by omega
   have s:Hid (zjK f B pa i cs ms w (.returned (.slice (some ⟨g,0,none⟩) i i)) wr):=by
    refine⟨a,g,by rw[O.out];exact zos _,rfl,t,G,?_,JB⟩
    rw[zcE]at A;exact jr A (by omega)
   clear t G A JB E D;go_wp2;exact bodyPost_ret (v:=.slice (some ⟨g,0,none⟩) i i) (by simp[results,Tryz.results38,go_sem]) rfl s.out
theorem xT{c:Array Value}{n:Nat}(h:c.size=n+1):c≠#[]:=fun e=>by rw[e]at h;simp at h
@[reducible] def zjL(d:PlanD)(pa:Nat)(L:LayD)(a b c:Value):Array Value:= #[.slice d.heads.a d.heads.n d.heads.c,.slice d.mta.a d.mta.n d.mta.c,.slice d.states.a d.states.n d.states.c,.slice d.acts.a d.acts.n d.acts.c,.slice d.tabs.a d.tabs.n d.tabs.c,.slice d.nodes.a d.nodes.n d.nodes.c,.slice d.out.a d.out.n d.out.c,.pointer (some ⟨pa,0,none⟩),.slice L.fs.a L.fs.n L.fs.c,.slice L.th.a L.th.n L.th.c,.slice L.me.a L.me.n L.me.c,.int .i64 L.port,.slice L.ke.a L.ke.n L.ke.c,.slice L.sa.a L.sa.n L.sa.c,.int .i64 L.slots,a,b,c]
structure MB (W00 W : World) (B pa mb : Nat) (arr : Array Value) (ms : List Int) (w : World) : Prop where
 st : St W B pa [] ms w
 bc : BC W00 W
 box : W.heap[mb]? = some (.cells arr 93 (0, 0))
 lo : W00.heap.size <= mb
theorem MB.at_{b W:World}{B pa mb:Nat}{a:Array Value}{ms:List Int}{w:World}(h:MB b W B pa mb a ms w)(c:a≠#[]):w.heap[mb]?=some (.cells a 93 (0,0)):=h.st.bc2 _ _ _ _ h.box c
theorem MB.put{n W:World}{B pa mb:Nat}{a:Array Value}{ms:List Int}{w:World}(h:MB n W B pa mb a ms w)(A:a≠#[])(i:Nat)(v:Value):∃j,MB n j B pa mb (a.setIfInBounds i v) ms (w.setCell ⟨mb,i,none⟩ v)/\(∀g m l,g≠mb->Has .i64 W (some ⟨g,0,none⟩) m l->Has .i64 j (some ⟨g,0,none⟩) m l)/\∀(k:Nat) (c:Array Value) (T:TypeId) (f:Nat × Nat),k≠mb->W.heap[k]?=some (.cells c T f)->c≠#[]->j.heap[k]?=some (.cells c T f):=by
 obtain⟨j,s1,c1,C,s⟩:=h.st.put h.bc h.box A h.lo i v;refine⟨j,⟨s1,c1,C,h.lo⟩,fun g m l x o=>⟨o.1,o.2.1,?_⟩,s⟩
 rcases o.2.2 with h2|⟨b,off,e,u,t⟩
 ·exact .inl h2
 ·simp only[zoo,Addr.mk.injEq,and_true]at e;obtain⟨rfl,rfl⟩:=e;by_cases y:m=0
  ·left
   exact List.length_eq_zero_iff.1 (o.1.trans y)
  ·obtain⟨c,T,f,hb,q,_⟩:=zbZ (t 0 (by omega))
   have d:=s g c T f x hb q;exact .inr ⟨g,0,rfl,(zoj.1 d).1,fun i hi=>by
    have r:=t i hi;rw[zj hb]at r;rw[zj d];exact r⟩
theorem MB.more{b W e:World}{B pa mb:Nat}{a:Array Value}{ms d:List Int}{w w':World}(h:MB b W B pa mb a ms w)(f:a≠#[])(s:St e B pa [] d w')(c:BC W e):MB b e B pa mb a d w':=⟨s,h.bc.trans c,c.2 _ _ _ _ h.box f,h.lo⟩
def zmo(d:PlanD)(lens:List Nat)(w:World)(e:Ending)(w':World):Prop:=
 ∃(M:MkrD) (a:World),e=.returned M.v/\MkrAt M a/\St a w.heap.size M.pa [] (List.replicate (d.states.n+(d.nodes.n+1)+1) (-1)) w'/\M.d=d/\zgW lens d.heads.n d.mta.n M.L/\M.sl=yV 0 d.states.n/\M.nl=yV d.states.n (d.nodes.n+1)/\M.nw=((d.states.n+(d.nodes.n+1):Nat):Int)/\Below w.heap.size w w'
theorem zmW(d:PlanD)(w:World)(hl:d.lie w)(lens:List Nat)(c8:d.hs.map (fun x=>x.w.n)=lens)(H:lens.sum+d.heads.n+d.mta.n<=900)(b7:∀n∈lens,n<=900)(f4:d.states.n<=300)(f1:d.nodes.n<=300):Calls Tryz.prog 22 #[d.v] w (zmo d lens w):=by
 obtain⟨pb,hpb⟩:∃b,b=w.heap.size:=⟨_,rfl⟩;obtain⟨u,hW2⟩:∃u,u=w.alloc (.cells #[.slice d.heads.a d.heads.n d.heads.c,.slice d.mta.a d.mta.n d.mta.c,.slice d.states.a d.states.n d.states.c,.slice d.acts.a d.acts.n d.acts.c,.slice d.tabs.a d.tabs.n d.tabs.c,.slice d.nodes.a d.nodes.n d.nodes.c,.slice d.out.a d.out.n d.out.c] 29):=⟨_,rfl⟩;have b2:Below w.heap.size w u:=by rw[hW2];exact ze (zof _ _)
 have E:u.heap[pb]?=some (.cells #[.slice d.heads.a d.heads.n d.heads.c,.slice d.mta.a d.mta.n d.mta.c,.slice d.states.a d.states.n d.states.c,.slice d.acts.a d.acts.n d.acts.c,.slice d.tabs.a d.tabs.n d.tabs.c,.slice d.nodes.a d.nodes.n d.nodes.c,.slice d.out.a d.out.n d.out.c] 29 (0,0)):=by rw[hW2,hpb];exact zK _ _ _
 have p0:=(zj E 0).trans (rfl:_=some (Value.slice d.heads.a d.heads.n d.heads.c));have p1:=(zj E 1).trans (rfl:_=some (Value.slice d.mta.a d.mta.n d.mta.c));have p2:=(zj E 2).trans (rfl:_=some (Value.slice d.states.a d.states.n d.states.c));have p3:=(zj E 3).trans (rfl:_=some (Value.slice d.acts.a d.acts.n d.acts.c));have p4:=(zj E 4).trans (rfl:_=some (Value.slice d.tabs.a d.tabs.n d.tabs.c));have p5:=(zj E 5).trans (rfl:_=some (Value.slice d.nodes.a d.nodes.n d.nodes.c));have p6:=(zj E 6).trans (rfl:_=some (Value.slice d.out.a d.out.n d.out.c));have Z:=(zoj.1 E).1;have c3:=hl.step b2;have J:=hid (fun w'=>znX w')
 have b0:=hid (fun w' (b:Below u.heap.size u w')=>zlB d w' (c3.step b) lens c8 H b7)
 have B0:=hid (zof u.heap.size u);have HP:=hid E;have a0:=hid b2;have HL:=hid hl;have EW:=hid hW2;have EP:=hid hpb;clear hl c8 H b7 hW2 hpb b2 E c3;dsimp only[PlanD.v,zcf]at*;go_enter Tryz.func22,Tryz.ntmps22
 go_upto_region 1 with fail
 rw[<-EW.out,<-EP.out];go_region_held3 (fun w'=>w'.cell? ⟨pb,0,none⟩=some (.slice d.heads.a d.heads.n d.heads.c)/\w'.cell? ⟨pb,1,none⟩=some (.slice d.mta.a d.mta.n d.mta.c)/\w'.cell? ⟨pb,2,none⟩=some (.slice d.states.a d.states.n d.states.c)/\w'.cell? ⟨pb,3,none⟩=some (.slice d.acts.a d.acts.n d.acts.c)/\w'.cell? ⟨pb,4,none⟩=some (.slice d.tabs.a d.tabs.n d.tabs.c)/\w'.cell? ⟨pb,5,none⟩=some (.slice d.nodes.a d.nodes.n d.nodes.c)/\w'.cell? ⟨pb,6,none⟩=some (.slice d.out.a d.out.n d.out.c)) (first|exact⟨za p0 (ze (ze i)),za p1 (ze (ze i)),za p2 (ze (ze i)),za p3 (ze (ze i)),za p4 (ze (ze i)),za p5 (ze (ze i)),za p6 (ze (ze i))⟩|exact⟨za p0 (ze i),za p1 (ze i),za p2 (ze i),za p3 (ze i),za p4 (ze i),za p5 (ze i),za p6 (ze i)⟩|exact⟨za p0 i,za p1 i,za p2 i,za p3 i,za p4 i,za p5 i,za p6 i⟩|exact⟨za p0 (ze B0.out).drew,za p1 (ze B0.out).drew,za p2 (ze B0.out).drew,za p3 (ze B0.out).drew,za p4 (ze B0.out).drew,za p5 (ze B0.out).drew,za p6 (ze B0.out).drew⟩|go_keep) (first
  |(go_at_call 36;refine(J.out _).mono ?_;rintro e w3 ⟨rfl,rfl⟩)
  |(go_at_call 37;refine(b0.out _ (ze B0.out).drew).mono ?_;rintro e w4 ⟨L,rfl,LO,G,c0⟩;have i:=zh (ze B0.out).drew G))
 obtain⟨pa,hpa⟩:∃b,b=u.heap.size:=⟨_,rfl⟩;obtain⟨mb,hmb⟩:∃b,b=w4.heap.size:=⟨_,rfl⟩;obtain⟨F,hw5⟩:∃F,F=w4.alloc (.cells (zjL d pa L (.slice none 0 0) (.slice none 0 0) (.int .i64 0)) 93):=⟨_,rfl⟩;have c4:u.heap.size=w.heap.size+1:=by rw[EW.out];simp
 have hA:LabAt 132 w.heap.size ⟨pa,none,0,none,0,[],[]⟩ w4:=by
  have h1:=zld 132 w.heap.size u (by omega)
  rw[<-hpa]at h1;exact(h1.step (zof _ _).drew).step G
 have c2:(u.alloc (.cells #[.slice none 0 0,.slice none 0 0] 132)).drew.heap.size=pa+1:=by rw[hpa];show(u.alloc _).heap.size=_;simp
 have Q:pa+1<=mb:=by rw[hmb,<-c2];exact G.size
 have l:∀k,(⟨pa,none,0,none,0,[],[]⟩:LabD).own k->k=pa:=fun k m=>by
  rcases m with h|⟨_,h,_⟩|⟨_,h,_⟩
  ·exact h
  ·cases h
  ·cases h
 have r:Below w4.heap.size w4 F:=by rw[hw5];exact ze (zof _ _)
 have U:=zh a0.out (zh i r);have t:=zh a0.out i;obtain⟨W00,hW00⟩:∃W,W=mask (⟨pa,none,0,none,0,[],[]⟩:LabD).own (fun _=>Classical.propDecidable _) w4:=⟨_,rfl⟩
 obtain⟨W0,hW0⟩:∃W,W=mask (⟨pa,none,0,none,0,[],[]⟩:LabD).own (fun _=>Classical.propDecidable _) F:=⟨_,rfl⟩
 have P:d.lie W00:=HL.out.step ⟨by rw[hW00];exact t.os,by rw[hW00];exact t.tape,by rw[hW00];exact t.output,by rw[hW00,yb];exact t.size,fun k m=>by
  rw[hW00,yA (fun h=>by have:=l k h;omega)]
  exact t.block k m⟩
 have y:L.lie W00:=c0 W00 (by rw[hW00,yb];exact zos _) fun k m _=>by
  rw[hW00,yA (fun h=>by have:=l k h;omega)]
 have M0:MB W00 W0 w.heap.size pa mb (zjL d pa L (.slice none 0 0) (.slice none 0 0) (.int .i64 0)) [] F:=by
  refine⟨⟨⟨pa,none,0,none,0,[],[]⟩,?_,rfl,rfl,rfl⟩,⟨?_,fun k c T f m d7=>?_⟩,?_,by rw[hW00,yb,hmb];exact zos _⟩
  ·rw[hW0];refine⟨hA.step r,zd1 _ _,fun k m o v hc=>?_,U.size⟩
   have V:=((hA.step r).lows m).2;simp only[World.cell?,kZ m V]at hc;simp at hc
  ·rw[hW00,hW0,yb,yb];exact r.size
  ·rw[hW00]at m;have b5:¬(⟨pa,none,0,none,0,[],[]⟩:LabD).own k:=fun ho=>by
    have V:k<w4.heap.size:=by have:=(zoj.1 m).1;rwa[yb]at this
    rw[kZ ho V]at m;simp only[zoo,Obj.cells.injEq]at m;exact d7 m.1.symm
   rw[yA b5]at m;rw[hW0,yA b5,r.block k (zoj.1 m).1];exact m
  ·rw[hW0,yA (fun h=>by have:=l mb h;omega),hw5,hmb]
   exact zK _ _ _
 have d6:Hid (∀w',Below F.heap.size F w'->True):=fun _ _=>trivial
 have s:F.heap[pb]?=some (.cells #[.slice d.heads.a d.heads.n d.heads.c,.slice d.mta.a d.mta.n d.mta.c,.slice d.states.a d.states.n d.states.c,.slice d.acts.a d.acts.n d.acts.c,.slice d.tabs.a d.tabs.n d.tabs.c,.slice d.nodes.a d.nodes.n d.nodes.c,.slice d.out.a d.out.n d.out.c] 29 (0,0)):=by
  rw[r.block pb (zom Z i.size),i.block pb Z];exact HP.out
 have K:W0.heap[pb]?=some (.cells #[.slice d.heads.a d.heads.n d.heads.c,.slice d.mta.a d.mta.n d.mta.c,.slice d.states.a d.states.n d.states.c,.slice d.acts.a d.acts.n d.acts.c,.slice d.tabs.a d.tabs.n d.tabs.c,.slice d.nodes.a d.nodes.n d.nodes.c,.slice d.out.a d.out.n d.out.c] 29 (0,0)):=by
  rw[hW0,yA (fun h=>by have:=l pb h;omega)]
  exact s
 have N:pb≠mb:=by omega
 have C:W0.cell? ⟨mb,7,none⟩=some (.pointer (some ⟨pa,0,none⟩)):=(zj M0.box 7).trans rfl;have a9:=hid (zgX C M0.st d.states.n (by omega) (zon _))
 have q2:=(zj s 2).trans (rfl:_=some (Value.slice d.states.a d.states.n d.states.c));have e2:=(zoj.1 s).1;rw[<-hpa,<-hmb,<-hw5];have c1:=hid M0;have b3:=hid K;have d1:=hid LO;have a4:=hid P;have b1:=hid y;have O:=hid U;have c6:=hid N;have e3:mb<F.heap.size:=(zoj.1 (M0.at_ (xT rfl))).1;have f6:=hid hw5;have e1:=hid hpa;have f5:=hid hmb;have d0:=hid c4;have a3:=hid Q;clear M0 K LO P y U t r hw5 hW0 hW00 l hA c2 hpa hmb c0 G i s C c4 d6 N Q HP a0 HL b0 J B0;clear p0 p1 p2 p3 p4 p5 p6 Z;go_wp2_with fail
 refine a9.out.mono ?_;rintro e w6 ⟨W1,g1,e8,rfl,I,C1,R1,B1⟩;have A:=c1.out.more (xT rfl) I C1;have g:=A.at_ (xT rfl);have d2:=(zj g 15).trans (rfl:_=some (Value.slice none 0 0));have c9:w6.frozen? ⟨mb,15,none⟩=false:=by simp[World.frozen?,g]
 have f2:=(zoj.1 g).1;obtain⟨W3,j,D,O2⟩:=A.put (xT rfl) 15 (.slice (some ⟨g1,0,none⟩) d.states.n d.states.n);have j:MB _ W3 _ pa mb (zjL d pa L (.slice (some ⟨g1,0,none⟩) d.states.n d.states.n) (.slice none 0 0) (.int .i64 0)) _ _:=j;have R1:=D _ _ _ (by omega) R1
 have a1:=O2 pb _ _ _ c6.out (C1.2 _ _ _ _ b3.out (xT rfl)) (xT rfl);obtain⟨w7,hw7⟩:∃w7,w7=w6.setCell ⟨mb,15,none⟩ (.slice (some ⟨g1,0,none⟩) d.states.n d.states.n):=⟨_,rfl⟩;rw[<-hw7]at j;have S:=j.st.bc2 _ _ _ _ a1 (xT rfl);have q5:=(zj S 5).trans (rfl:_=some (Value.slice d.nodes.a d.nodes.n d.nodes.c));have e4:=(zoj.1 S).1;have C:W3.cell? ⟨mb,7,none⟩=some (.pointer (some ⟨pa,0,none⟩)):=(zj j.box 7).trans rfl;have X:=hid (zgX C j.st (d.nodes.n+1) (by omega) (by simp;omega))
 have a2:w.heap.size<=mb:=by have:=d0.out;have:=e1.out;have:=a3.out;omega
 have a8:Hid (Below w.heap.size w w7):=by
  show Below _ _ _;rw[hw7];exact(O.out.trans B1).setCell (p:=⟨mb,15,none⟩) a2 _
 have en:((d.nodes.n+1:Nat):Int)=(d.nodes.n:Int)+1:=by omega
 rw[en]at X;have b8:=hid R1;have e0:=hid a1;have B:=hid j;have d3:=hid hw7;have a5:Hid (g1≠mb):=by show _≠_;omega
 clear A I C1 R1 B1 D O2 g j a1 S C a9 q2 hw7 c1 b3 O;go_upto_region 3 with fail
 rw[<-d3.out];clear d2 c9;go_wp2_with fail
 refine X.out.mono ?_;rintro e w8 ⟨W4,g2,f0,rfl,I,C1,R1,B1⟩;have f7:=(zoj.1 (B.out.at_ (xT rfl))).1;have A:=B.out.more (xT rfl) I C1;have g:=A.at_ (xT rfl);have d8:=(zj g 16).trans (rfl:_=some (Value.slice none 0 0));have d5:w8.frozen? ⟨mb,16,none⟩=false:=by simp[World.frozen?,g]
 have e9:=(zoj.1 g).1;obtain⟨W5,j,D,O2⟩:=A.put (xT rfl) 16 (.slice (some ⟨g2,0,none⟩) (d.nodes.n+1) (d.nodes.n+1));have j:MB _ W5 _ pa mb (zjL d pa L (.slice (some ⟨g1,0,none⟩) d.states.n d.states.n) (.slice (some ⟨g2,0,none⟩) (d.nodes.n+1) (d.nodes.n+1)) (.int .i64 0)) _ _:=j;have RB:=D _ _ _ (by omega) R1
 have RA:=D _ _ _ a5.out (b8.out.cov C1.cov);obtain⟨w9,hw9⟩:∃w9,w9=w8.setCell ⟨mb,16,none⟩ (.slice (some ⟨g2,0,none⟩) (d.nodes.n+1) (d.nodes.n+1)):=⟨_,rfl⟩;rw[<-hw9]at j;have Y:=hid (zcA j.st (by simp;omega))
 have R:=j.at_ (xT rfl);have q7:=(zj R 7).trans (rfl:_=some (Value.pointer (some ⟨pa,0,none⟩)));have e7:=(zoj.1 R).1;have a6:Hid (Below w.heap.size w w9):=by
  show Below _ _ _;rw[hw9];exact(a8.out.trans B1).setCell (p:=⟨mb,16,none⟩) a2 _
 have M:(([]++List.replicate d.states.n (-1:Int))++List.replicate (d.nodes.n+1) (-1)).length=d.states.n+(d.nodes.n+1):=by simp
 rw[M]at Y;obtain⟨nw,hnw⟩:∃q,q=d.states.n+(d.nodes.n+1):=⟨_,rfl⟩;rw[<-hnw]at Y;have d9:=hid hnw;have b9:=hid RA;have b6:=hid RB;have B:=hid j;have d4:=hid hw9;clear A I C1 R1 B1 D O2 g j RA RB X q5 hw9 R b8 a8 e0 M hnw en;go_upto_region 4 with fail
 rw[<-d4.out];clear d8 d5;go_wp2_with fail
 refine Y.out.mono ?_;rintro e c5 ⟨rfl,I,B1⟩;have A:=B.out.more (xT rfl) I ⟨zos _,fun _ _ _ _ h _=>h⟩
 have g:=A.at_ (xT rfl);have f3:=(zj g 17).trans (rfl:_=some (Value.int .i64 0));have e6:c5.frozen? ⟨mb,17,none⟩=false:=by simp[World.frozen?,g]
 have e5:=(zoj.1 g).1;obtain⟨W6,j,D,_⟩:=A.put (xT rfl) 17 (.int .i64 (nw:Int));have j:MB _ W6 _ pa mb (zjL d pa L (.slice (some ⟨g1,0,none⟩) d.states.n d.states.n) (.slice (some ⟨g2,0,none⟩) (d.nodes.n+1) (d.nodes.n+1)) (.int .i64 (nw:Int))) _ _:=j;have RB:=D _ _ _ (by omega) b6.out
 have RA:=D _ _ _ a5.out b9.out;have a7:Hid (zmo d lens w (.returned (.pointer (some ⟨mb,0,none⟩))) (c5.setCell ⟨mb,17,none⟩ (.int .i64 (nw:Int)))):=by
  have hb:=j.box;refine⟨⟨mb,d,pa,L,⟨some ⟨g1,0,none⟩,d.states.n,d.states.n⟩,yV 0 d.states.n,⟨some ⟨g2,0,none⟩,d.nodes.n+1,d.nodes.n+1⟩,yV d.states.n (d.nodes.n+1),(nw:Int)⟩,W6,rfl,⟨⟨(zj hb 0).trans rfl,(zj hb 1).trans rfl,(zj hb 2).trans rfl,(zj hb 3).trans rfl,(zj hb 4).trans rfl,(zj hb 5).trans rfl,(zj hb 6).trans rfl,(zj hb 7).trans rfl,(zj hb 8).trans rfl,(zj hb 9).trans rfl,(zj hb 10).trans rfl,(zj hb 11).trans rfl,(zj hb 12).trans rfl,(zj hb 13).trans rfl,(zj hb 14).trans rfl,(zj hb 15).trans rfl,(zj hb 16).trans rfl,(zj hb 17).trans rfl⟩,zbE a4.out j.bc.cov,b1.out.cov j.bc.cov,RA,?_⟩,?_,rfl,d1.out,rfl,rfl,by rw[d9.out],(a6.out.trans B1).setCell (p:=⟨mb,17,none⟩) a2 _⟩
  ·have e:([]++List.replicate d.states.n (-1:Int)).length=d.states.n:=by simp
   rw[e]at RB;exact RB
  ·have:=j.st;have e:(List.replicate d.states.n (-1:Int)++List.replicate (d.nodes.n+1) (-1))++[-1]=List.replicate (d.states.n+(d.nodes.n+1)+1) (-1):=by
    rw[show[(-1:Int)]=List.replicate 1 (-1)from rfl,List.replicate_append_replicate,List.replicate_append_replicate]
   rw[List.nil_append,e]at this;exact this
 clear A I B1 D g j RA RB b9 b6 B a6 q7;go_wp2;exact bodyPost_ret (v:=.pointer (some ⟨mb,0,none⟩)) (by simp[results,Tryz.results22,go_sem]) rfl a7.out
structure zaH (p : PPlan) (i : Nat) (x : PNode) : Prop where
 kind : x.kind = 1 \/ x.kind = 2 \/ x.kind = 3 \/ x.kind = 4
 yes : (i : Int) < x.yes /\ x.yes <= (p.ns.length : Int)
 no : (x.kind = 3 \/ x.kind = 4) -> (i : Int) < x.no /\ x.no <= (p.ns.length : Int)
 tab : x.kind = 1 -> 0 <= x.n /\ x.n < (p.ts.length : Int)
 act : x.kind = 2 -> 0 <= x.n /\ x.n < (p.al.length : Int)
 tree : x.kind = 3 -> xl p x.es [] = 0
 hd : x.kind = 4 -> 0 <= x.n /\ x.n < (p.hs.length : Int)
 noarg : x.kind = 2 -> (p.al.getD x.n.toNat PAct.z).ws = []
theorem zap{m:Nat}{k:Int}(h:xz m k=0):0<=k/\k<(m:Int):=by
 unfold xz at h;by_cases e:0<=k/\k<(m:Int)
 ·exact e
 ·rw[if_neg e]at h;exact absurd h (by decide)
theorem zcq{m i:Nat}{a:Int}(h:zP m i a=0):(i:Int)<a/\a<=(m:Int):=by
 unfold zP at h;by_cases e:a<0\/(m:Int)<a
 ·rw[if_pos e]at h;exact absurd h (by decide)
 ·rw[if_neg e]at h;by_cases b:a<=(i:Int)
  ·rw[if_pos b]at h;exact absurd h (by decide)
  ·omega
theorem za3{p:PPlan}(h:(zD p).1=0){i:Nat}(hi:i<p.ns.length):zaH p i (p.ns.getD i PNode.z):=by
 have k:yG p i (p.ns.getD i PNode.z)=0:=(zB h 5 (by decide)).2.2 i hi
 generalize p.ns.getD i PNode.z=x at*;unfold yG at k;obtain⟨a,h2⟩:=zal k;have d:=kK h2;have m:zP p.ns.length i x.yes=0:=d _ (zoJ.2 ⟨x.yes,by split<;>simp,rfl⟩)
 have o:(x.kind=3\/x.kind=4)->zP p.ns.length i x.no=0:=fun e=>d _ (zoJ.2 ⟨x.no,by rw[if_pos e];simp,rfl⟩)
 unfold xN at a;have g:x.kind=2->doC p x.n=0:=fun e=>by rw[if_neg (by omega),if_pos e]at a;exact a
 have c:x.kind=2->(0<=x.n/\x.n<(p.al.length:Int))/\(p.al.getD x.n.toNat PAct.z).ws=[]:=fun e=>by
  have:=g e;unfold doC at this;by_cases b:0<=x.n/\x.n<(p.al.length:Int)
  ·rw[if_pos b]at this;refine⟨b,?_⟩;by_cases f:0<(p.al.getD x.n.toNat ⟨[],[]⟩).ws.length
   ·rw[if_pos f]at this;exact absurd this (by decide)
   ·exact zoG (by show(p.al.getD x.n.toNat ⟨[],[]⟩).ws.length=0;omega)
  ·rw[if_neg b]at this;exact absurd this (by decide)
 refine⟨?_,zcq m,fun e=>zcq (o e),fun e=>?_,fun e=>(c e).1,fun e=>?_,fun e=>?_,fun e=>(c e).2⟩
 ·by_cases b:x.kind=1
  ·exact .inl b
  by_cases f:x.kind=2
  ·exact .inr (.inl f)
  by_cases l:x.kind=3
  ·exact .inr (.inr (.inl l))
  by_cases j:x.kind=4
  ·exact .inr (.inr (.inr j))
  rw[if_neg b,if_neg f,if_neg l,if_neg j]at a;exact absurd a (by decide)
 ·rw[if_pos e]at a;exact zap a
 ·rw[if_neg (by omega),if_neg (by omega),if_pos e]at a
  exact a
 ·rw[if_neg (by omega),if_neg (by omega),if_neg (by omega),if_pos e]at a
  exact zap a
theorem ja{p:PPlan}(a:(zD p).1=0){r:RefD}{zs:List Int}(hw:p.width r zs≠0):r.h<6:=by
 have b:(p.hs.length:Int)<=6:=(zB a 0 (by decide)).2.1
 refine Decidable.byContradiction fun c=>hw ?_
 unfold PPlan.width PPlan.fields;rw[if_neg (show¬r.h= -1 by omega),if_neg (show¬r.h= -2 by omega),if_neg (show¬r.h= -3 by omega),if_pos (show r.h<0\/(p.hs.length:Int)<=r.h by omega)]
 rw[if_pos (by simp;omega)]
theorem zbV{p:PPlan}{zs:List Int}:∀{es:List PushD} {left:Int},zN p zs es left=0->∀x∈es,x.op=2->p.width x.r zs≠0
 |[],_,_,x,a,_=>absurd a zoA
 |y::es,left,h,x,a,ho=>by
  unfold zN at h;by_cases c:yk y.op<0\/left<yk y.op
  ·rw[if_pos c]at h;exact absurd h (by decide)
  rw[if_neg c]at h;by_cases b:y.op=2/\p.width y.r zs=0
  ·rw[if_pos b]at h;exact absurd h (by decide)
  rw[if_neg b]at h;rcases zoD.1 a with rfl|a
  ·exact fun e=>b ⟨ho,e⟩
  ·exact zbV h x a ho
theorem qr{p:PPlan}{zs:List Int}{es:List PushD}(h:xl p es zs=0):es.length<=8/\∀x∈es,x.op=2->p.width x.r zs≠0:=by
 unfold xl at h;by_cases e:8<es.length
 ·rw[if_pos e]at h;exact absurd h (by decide)
 ·rw[if_neg e]at h;exact⟨by omega,zbV h⟩
structure zgL (p : PPlan) (t : PTab) : Prop where
 few : t.ks.length <= 3
 keys : ∀ r ∈ t.ks, p.width r [] ≠ 0
 acts : ∀ k ∈ t.al, 0 <= k /\ k < (p.al.length : Int)
 afew : t.al.length <= 4
 store : zJ t (t.ks.map (fun r => p.width r [])) p.al = 0
theorem zcr{lo hi:Int}{l:List Int}(h:InC lo hi l=true):∀k∈l,lo<=k/\k<=hi:=by
 intro k a;unfold InC at h;have:=List.all_eq_true.1 h k a;simpa using this
theorem zfB{p:PPlan}(h:(zD p).1=0){i:Nat}(hi:i<p.ts.length):zgL p (p.ts.getD i PTab.z):=by
 have a:zcR p (p.ts.getD i PTab.z)=0:=(zB h 4 (by decide)).2.2 i hi
 generalize p.ts.getD i PTab.z=t at*;unfold zcR at a;by_cases f:3<t.ks.length
 ·rw[if_pos f]at a;exact absurd a (by decide)
 rw[if_neg f]at a;by_cases h2:(0:Int)∈t.ks.map (fun r=>p.width r [])
 ·rw[if_pos h2]at a;exact absurd a (by decide)
 rw[if_neg h2]at a;have hs:=a;unfold zJ at a;by_cases j:isK t.kind=false
 ·rw[if_pos j]at a;exact absurd a (by decide)
 rw[if_neg j]at a;by_cases b:InC 1 (kr t.kind) [((t.ks.map (fun r=>p.width r [])).length:Int)]=false\/InC 1 4 [(t.al.length:Int)]=false
 ·rw[if_pos b]at a;exact absurd a (by decide)
 rw[if_neg b]at a;by_cases g:InC 0 16 [t.cap]=false
 ·rw[if_pos g]at a;exact absurd a (by decide)
 rw[if_neg g]at a;by_cases d:InC 1 48 (t.ks.map (fun r=>p.width r []))=false
 ·rw[if_pos d]at a;exact absurd a (by decide)
 rw[if_neg d]at a;by_cases c:InC 0 ((p.al.length:Int)-1) t.al=false
 ·rw[if_pos c]at a;exact absurd a (by decide)
 refine⟨by omega,fun r hr e=>h2 (zoJ.2 ⟨r,hr,e⟩),fun k m=>?_,?_,hs⟩
 ·have:=zcr (by simpa using c) k m
  omega
 ·have:=zcr (l:=[(t.al.length:Int)]) (lo:=1) (hi:=4) (by
   cases n:InC 1 4 [(t.al.length:Int)]with
   |true=>rfl
   |false=>exact absurd (.inr n) b) _ List.mem_cons_self
  omega
structure znl (p : PPlan) (a : PAct) : Prop where
 few : a.ws.length <= 3 /\ a.os.length <= 5
 deed : ∀ o ∈ a.os, zx p a.ws o = 0
 wid : ∀ x ∈ a.ws, 1 <= x /\ x <= 48
theorem zjf{p:PPlan}(h:(zD p).1=0){i:Nat}(hi:i<p.al.length):znl p (p.al.getD i PAct.z):=by
 have b:ki p (p.al.getD i PAct.z)=0:=(zB h 3 (by decide)).2.2 i hi
 generalize p.al.getD i PAct.z=a at*;unfold ki at b;by_cases c:3<a.ws.length\/5<a.os.length
 ·rw[if_pos c]at b;exact absurd b (by decide)
 rw[if_neg c]at b;obtain⟨h2,g⟩:=zal b;refine⟨by omega,fun o d=>kK g _ (zoJ.2 ⟨o,d,rfl⟩),fun x f=>?_⟩
 have:=kK h2 _ (zoJ.2 ⟨x,f,rfl⟩);unfold xC at this;by_cases e:x<1\/48<x
 ·rw[if_pos e]at this;exact absurd this (by decide)
 ·omega
structure zdX (p : PPlan) (ws : List Int) (o : POp) : Prop where
 kind : 1 <= o.kind /\ o.kind <= 6
 tree : o.kind = 1 \/ o.kind = 5 -> xl p o.es ws = 0
 ref : o.kind = 1 \/ o.kind = 6 -> o.r.h ≠ -3 /\ p.width o.r [] ≠ 0
 head : o.kind = 2 \/ o.kind = 3 \/ o.kind = 6 -> 0 <= o.head /\ o.head < (p.hs.length : Int)
theorem zbW{p:PPlan}{r:RefD}(h:zR p r=0):r.h≠-3/\p.width r []≠0:=by
 unfold zR at h;by_cases e:r.h= -3\/p.width r []=0
 ·rw[if_pos e]at h;exact absurd h (by decide)
 ·exact⟨fun h=>e (.inl h),fun h=>e (.inr h)⟩
theorem zjg{p:PPlan}{ws:List Int}{o:POp}(h:zx p ws o=0):zdX p ws o:=by
 unfold zx at h;by_cases f:o.kind=1
 ·rw[if_pos f]at h;obtain⟨a,h2⟩:=zal h;exact⟨by omega,fun _=>h2,fun _=>zbW a,fun e=>by omega⟩
 rw[if_neg f]at h;by_cases d:o.kind=2\/o.kind=3
 ·rw[if_pos d]at h;exact⟨by omega,fun e=>by omega,fun e=>by omega,fun _=>zap h⟩
 rw[if_neg d]at h;by_cases g:o.kind=4
 ·exact⟨by omega,fun e=>by omega,fun e=>by omega,fun e=>by omega⟩
 rw[if_neg g]at h;by_cases b:o.kind=5
 ·rw[if_pos b]at h;exact⟨by omega,fun _=>h,fun e=>by omega,fun e=>by omega⟩
 rw[if_neg b]at h;by_cases c:o.kind=6
 ·rw[if_pos c]at h;obtain⟨a,h2⟩:=zal h;exact⟨by omega,fun e=>by omega,fun _=>zbW a,fun _=>zap h2⟩
 rw[if_neg c]at h;exact absurd h (by decide)
theorem zgM{p:PPlan}(h:(zD p).1=0){k:Int}(b:0<=k/\k<(p.al.length:Int)):∀o∈zG p k,zdX p (p.al.getD k.toNat PAct.z).ws o:=fun o a=>
 zjg ((zjf h (i:=k.toNat) (by omega)).deed o a)
theorem zjh{p:PPlan}(a:(zD p).1=0){ws:List Int}{o:POp}(h:zdX p ws o):zaZ o:=by
 have c:(p.hs.length:Int)<=6:=(zB a 0 (by decide)).2.1
 refine⟨h.kind,fun e=>ja a (h.ref e).2,fun e x b h2=>ja a ((qr (h.tree e)).2 x b h2),fun e=>(qr (h.tree e)).1,fun e=>?_⟩
 have:=h.head e;omega
theorem zgN{p:PPlan}(h:(zD p).1=0){k:Int}(b:0<=k/\k<(p.al.length:Int)):zeq (zG p k):=fun o a e=>by
 have c:(p.hs.length:Int)<=6:=(zB h 0 (by decide)).2.1
 have:=(zgM h b o a).head (by omega)
 omega
theorem zgO{p:PPlan}(h:(zD p).1=0){s i:Nat}{x:PNode}(hs:s<2^64)(a:zaH p i x):jd p s x<2^64:=by
 unfold jd;by_cases d:x.kind=1
 ·rw[if_pos d];exact zck _
 rw[if_neg d];by_cases b:x.kind=2
 ·rw[if_pos b];exact qQ hs (zgN h (a.act b))
 rw[if_neg b];by_cases c:x.kind=3
 ·rw[if_pos c];exact hs
 rw[if_neg c];have e:(p.hs.length:Int)<=6:=(zB h 0 (by decide)).2.1
 have:=a.hd (by have:=a.kind;omega)
 exact Nat.or_lt_two_pow hs (xW (by omega))
theorem zji{s:Nat}{x:PNode}(hs:s<2^64):noN s x<2^64:=by
 unfold noN;split
 ·exact zcj hs
 ·exact hs
theorem zhx{p:PPlan}{s i j:Nat}{x:PNode}(a:zaH p i x)(c:j<=i):qM p s x j=zF:=by
 unfold qM;by_cases e:s=zF
 ·rw[if_pos e]
 rw[if_neg e,if_neg (by have:=a.yes;omega),if_neg (by rintro⟨b,h2⟩;have:=a.no b;omega)]
 rfl
theorem zlh{p:PPlan}(h:(zD p).1=0){st:Nat}(hs:st<2^64){m j:Nat}(a:m<p.ns.length)(b:j<=m):SN p st (m+1) j=SN p st m j:=by
 show SN p st m j&&& qM p (SN p st m m) (p.ns.getD m PNode.z) j=_;rw[zhx (za3 h a) b,zy (qR hs m j)]
theorem zjj{p:PPlan}(h:(zD p).1=0){st:Nat}(hs:st<2^64){j:Nat}:∀{m:Nat},m<=p.ns.length->j<=m->SN p st m j=SN p st j j
 |0,_,hj=>by
  obtain rfl:j=0:=by omega
  rfl
 |m+1,hm,hj=>by
  by_cases e:j=m+1
  ·subst e;rfl
  ·rw[zlh h hs (by omega) (by omega)]
   exact zjj h hs (by omega) (by omega)
def kV(p:PPlan)(st:Nat):List Int:=(List.range (p.ns.length+1)).map fun j=>((SN p st j j:Nat):Int)
def xG(p:PPlan)(st:Nat)(m:Nat):List Nat:=(List.range (p.ns.length+1)).map fun j=>SN p st m j
theorem zhy{p:PPlan}(h:(zD p).1=0){st:Nat}(hs:st<2^64):(xG p st p.ns.length).map (fun(n:Nat)=>(n:Int))=kV p st:=by
 unfold xG kV;rw[List.map_map];refine List.map_congr_left fun j a=>?_
 have:=List.mem_range.1 a;show((SN p st p.ns.length j:Nat):Int)=_;rw[zjj h hs (zos _) (by omega)]
def jD(p:PPlan)(st:Nat)(i:Nat):Prop:=SN p st i i≠zF/\yB p (SN p st i i) (p.ns.getD i PNode.z)=false
def zfC(p:PPlan)(st:Nat)(C A:Int):Prop:=
 (∃i,i<p.ns.length/\jD p st i/\(∀j,j<i->¬jD p st j)/\C=12/\A=6000+i)\/((∀j,j<p.ns.length->¬jD p st j)/\C=0/\A=0)
theorem zfD{p:PPlan}{st:Nat}{C A f j:Int}(h:zfC p st C A)(g:zfC p st f j):C=f/\A=j:=by
 rcases h with⟨n,m,i,l,rfl,rfl⟩|⟨k,rfl,rfl⟩
 ·rcases g with⟨b,e,a,d,rfl,rfl⟩|⟨c,rfl,rfl⟩
  ·have:n=b:=by
    rcases Nat.lt_trichotomy n b with h|h|h
    ·exact absurd i (d n h)
    ·exact h
    ·exact absurd a (l b h)
   subst this;exact⟨rfl,rfl⟩
  ·exact absurd i (c n m)
 ·rcases g with⟨b,e,a,d,rfl,rfl⟩|⟨c,rfl,rfl⟩
  ·exact absurd a (k b e)
  ·exact⟨rfl,rfl⟩
theorem qw{α :Type}{k:Nat}{P: α->World->Nat->Nat->Prop}{w:World}:QRow k P w ⟨none,0,0⟩ ([]:List α):=⟨rfl,by simp⟩
structure BCells (w : World) (p0 p1 p2 : Nat) (els : Int) : Prop where
 c0 : w.cell? ⟨p0, 0, none⟩ = some (.int .i64 8)
 c1 : w.cell? ⟨p1, 0, none⟩ = some (.slice (some ⟨p0, 0, none⟩) 1 1)
 s0 : w.cell? ⟨p2, 0, none⟩ = some (.int .i64 0)
 s1 : w.cell? ⟨p2, 1, none⟩ = some (.int .i64 0)
 s2 : w.cell? ⟨p2, 2, none⟩ = some (.int .i64 0)
 s3 : w.cell? ⟨p2, 3, none⟩ = some (.slice none 0 0)
 s4 : w.cell? ⟨p2, 4, none⟩ = some (.int .i64 els)
abbrev B0:Obj:=.cells #[.int .i64 8] 3
abbrev B1(a:Nat):Obj:=.cells #[.slice (some ⟨a,0,none⟩) 1 1] 55
abbrev B2:Obj:=.cells #[.int .i64 0,.int .i64 0,.int .i64 0,.slice none 0 0,.int .i64 1000] 60
theorem jX(h:Int)(h0:0<=h)(a:h<6)(w:World):Calls Tryz.prog 30 #[.int .i64 h] w fun e w'=>e=.returned (.int .u64 (zv h))/\w'=w:=by
 rcases qo (show¬h<0 by omega) a with rfl|rfl|rfl|rfl|rfl|rfl
 all_goals
  go_enter Tryz.func30,Tryz.ntmps30
  go_wp2;go_ret;exact⟨rfl,rfl⟩
theorem zgQ{s:Nat}{h:Int}(h0:0<=h)(c:h<6)(hs:s<2^64):(bits .and .u64 (s:Int) (zv h:Int)==0)=!yc s h:=by
 have e:zv h=2^h.toNat:=by unfold zv;rw[if_neg (by omega)]
 have b:yc s h=s.testBit h.toNat:=by unfold yc;rw[zoX (by omega),Bool.false_or]
 rw[e,b,<-zgS s h.toNat (by omega) hs]
 generalize bits .and .u64 (s:Int) ((2^h.toNat:Nat):Int)=z;by_cases a:z=0
 ·subst a;rfl
 ·rw[(beq_eq_false_iff_ne).2 a,(bne_iff_ne).2 a];rfl
theorem zaq(s:Nat)(h f:Int)(hs:s<2^64)(b:h<6)(w:World):Calls Tryz.prog 31 #[.agg #[.int .i64 h,.int .i64 f],.int .u64 (s:Int)] w fun e w'=>e=.returned (.bool (!yc s h))/\Below w.heap.size w w':=by
 have a:Hid (∀o,Below w.heap.size w (w.alloc o)):=fun o=>ze (zof _ _)
 by_cases h0:0<=h
 ·have hd:=zoY h0;have hb:=zgQ h0 b hs;have HC:=hid (fun w'=>jX h h0 b w')
  rw[<-hb];clear hb;go_enter Tryz.func31,Tryz.ntmps31
  go_wp2_with (go_at_call 30;refine(HC.out _).mono ?_;rintro e w' ⟨rfl,rfl⟩)
  go_ret;exact⟨rfl,a.out _⟩
 ·have hd:=zoX h0;have e:yc s h=true:=by unfold yc;rw[zoY (by omega),Bool.true_or]
  rw[e];clear e;go_enter Tryz.func31,Tryz.ntmps31
  go_wp2;go_ret;exact⟨rfl,a.out _⟩
theorem zbx(s:Nat)(e:QSl)(es:List PushD)(w:World)(hs:s<2^64)(E:QRow 4 PushD.lie w e es)(F:∀x∈es,x.op=2->x.r.h<6)(P:e.n<=1000):
 Calls Tryz.prog 33 #[.slice e.a e.n e.c,.int .u64 (s:Int)] w fun q w'=>q=.returned (.bool (!zL s es))/\Below w.heap.size w w':=by
 obtain⟨C,ee⟩:∃C,e.a=C:=⟨_,rfl⟩;have G:=hid E;have L:=hid ee;have K:=hid F;have N:=hid hs;have HD:Hid (∀(w':World) (b:Bool),zL s es=b->Below w.heap.size w w'->(Ending.returned (.bool (!b))=.returned (.bool (!zL s es))/\Below w.heap.size w w')):=fun w' b h hb=>⟨by rw[h],hb⟩
 have H0:Hid (Below w.heap.size w w):=zof _ _;rw[ee];clear E ee F hs;go_enter Tryz.func33,Tryz.ntmps33
 go_wp2;go_loopw [5] (fun q wr=>∃k:Nat,k<=e.n/\q=.int .i64 k/\Hid (zL s es=zL s (es.drop k))/\Hid (Below w.heap.size w wr)) (fun q _=>e.n-(intOf q).toNat)
 case atStart=>exact⟨0,zon _,rfl,rfl,H0⟩
 case round=>
  obtain⟨k,O,rfl,t,o⟩:=hrel;clear H0;by_cases A:k<e.n
  ·obtain⟨g,off,x,l,y,⟨r0,_⟩,⟨r1,_⟩,⟨H,_⟩,⟨I,_⟩⟩:=zu (G.out.step PushD.keeps o.out) A;obtain rfl:C=some ⟨g,off,none⟩:=by rw[<-L.out];exact l
   have D:(k:Int)<(e.n:Int):=by omega
   have j:Hid (zL s es=((!decide (x.op=2)||yc s x.r.h)&&zL s (es.drop (k+1)))):=by show zL s es=_;rw[t.out];exact jY y
   by_cases h2:x.op=2
   ·have J:(x.op==2)=true:=by simpa using h2
    have u:=hid (fun w'=>zaq s x.r.h x.r.f N.out (K.out x (zol y) h2) w')
    rw[zoY h2]at j;clear y l t h2;generalize yc s x.r.h=B at*;cases B with
    |true=>
     have d:Hid (zL s es=zL s (es.drop (k+1))):=by have:=j.out;show zL s es=_;simpa using this
     clear j;go_wp2_with fail
     refine(u.out _).mono ?_;rintro q M ⟨rfl,i⟩;have m:=hid (zh o.out i);clear u i r0 r1 H I;go_wp2;go_roundw
     case rel=>exact⟨k+1,by omega,by go_num,d,m⟩
     case measure=>simp[intOf];omega
    |false=>
     have d:Hid (zL s es=false):=by have:=j.out;show zL s es=_;simpa using this
     clear j;go_wp2_with fail
     refine(u.out _).mono ?_;rintro q M ⟨rfl,i⟩;have m:=hid (zh o.out i);clear u i r0 r1 H I;go_wp2;go_ret;exact HD.out _ _ d.out m.out
   ·have J:(x.op==2)=false:=by simpa using h2
    rw[zoX h2]at j;have d:Hid (zL s es=zL s (es.drop (k+1))):=by have:=j.out;show zL s es=_;simpa using this
    clear j y l t h2;go_wp2;go_roundw
    case rel=>exact⟨k+1,by omega,by go_num,d,o⟩
    case measure=>simp[intOf];omega
  ·have D:¬(k:Int)<(e.n:Int):=by omega
   have d:Hid (zL s es=true):=by
    show zL s es=true;rw[t.out,List.drop_of_length_le (by have:=G.out.1;omega)]
    rfl
   clear t;go_wp2;go_ret;exact HD.out _ _ d.out o.out
end Go.Proofs.YtdajaaondlekfaaGreat
