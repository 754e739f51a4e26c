import Derived.Test.YtbmcgbmegcpgnaaGreatVQDup1
import Derived.Deep.DeepCutAuto
import Derived.Deep.CutBlock
set_option maxHeartbeats 32000000
set_option maxRecDepth 20000
set_option linter.unusedSimpArgs false
namespace Go.Proofs.YtbmcgbmegcpgnaaGreat
open Go.RowKit
theorem zcK{X wy:World}(h:Below (X.alloc (.cells #[.slice none 0 0,.slice none 0 0,.slice none 0 0,.slice none 0 0,.slice none 0 0,.slice none 0 0,.slice none 0 0] 29)).heap.size (X.alloc (.cells #[.slice none 0 0,.slice none 0 0,.slice none 0 0,.slice none 0 0,.slice none 0 0,.slice none 0 0,.slice none 0 0] 29)) wy):(wy.cell? ⟨X.heap.size,0,none⟩=some (.slice none 0 0)/\wy.cell? ⟨X.heap.size,1,none⟩=some (.slice none 0 0)/\wy.cell? ⟨X.heap.size,2,none⟩=some (.slice none 0 0)/\wy.cell? ⟨X.heap.size,3,none⟩=some (.slice none 0 0)/\wy.cell? ⟨X.heap.size,4,none⟩=some (.slice none 0 0)/\wy.cell? ⟨X.heap.size,5,none⟩=some (.slice none 0 0)/\wy.cell? ⟨X.heap.size,6,none⟩=some (.slice none 0 0))/\(wy.frozen? ⟨X.heap.size,0,none⟩=false/\wy.frozen? ⟨X.heap.size,1,none⟩=false/\wy.frozen? ⟨X.heap.size,2,none⟩=false/\wy.frozen? ⟨X.heap.size,3,none⟩=false/\wy.frozen? ⟨X.heap.size,4,none⟩=false/\wy.frozen? ⟨X.heap.size,5,none⟩=false/\wy.frozen? ⟨X.heap.size,6,none⟩=false)/\X.heap.size<wy.heap.size:=by
 have hs:=h.size;rw[World.size_alloc]at hs;have b:∀i v,(#[.slice none 0 0,.slice none 0 0,.slice none 0 0,.slice none 0 0,.slice none 0 0,.slice none 0 0,.slice none 0 0]:Array Value)[i]?=some v->wy.cell? ⟨X.heap.size,i,none⟩=some v:=fun i v c=>(h.cell (p:=⟨X.heap.size,i,none⟩) (by simp)).trans ((zod _ _ _ _ rfl).trans c)
 have a:∀i,wy.frozen? ⟨X.heap.size,i,none⟩=false:=fun i=>(h.frozen (p:=⟨X.heap.size,i,none⟩) (by simp)).trans (zoB _ _ _ _ rfl)
 exact⟨⟨b 0 _ rfl,b 1 _ rfl,b 2 _ rfl,b 3 _ rfl,b 4 _ rfl,b 5 _ rfl,b 6 _ rfl⟩,⟨a 0,a 1,a 2,a 3,a 4,a 5,a 6⟩,by omega⟩
theorem zdz{X wy:World}(h:Below (X.alloc (.cells #[.slice none 0 0,.slice none 0 0,.slice none 0 0,.slice none 0 0,.slice none 0 0,.slice none 0 0,.slice none 0 0] 29)).drew.heap.size (X.alloc (.cells #[.slice none 0 0,.slice none 0 0,.slice none 0 0,.slice none 0 0,.slice none 0 0,.slice none 0 0,.slice none 0 0] 29)).drew wy):(wy.cell? ⟨X.heap.size,0,none⟩=some (.slice none 0 0)/\wy.cell? ⟨X.heap.size,1,none⟩=some (.slice none 0 0)/\wy.cell? ⟨X.heap.size,2,none⟩=some (.slice none 0 0)/\wy.cell? ⟨X.heap.size,3,none⟩=some (.slice none 0 0)/\wy.cell? ⟨X.heap.size,4,none⟩=some (.slice none 0 0)/\wy.cell? ⟨X.heap.size,5,none⟩=some (.slice none 0 0)/\wy.cell? ⟨X.heap.size,6,none⟩=some (.slice none 0 0))/\(wy.frozen? ⟨X.heap.size,0,none⟩=false/\wy.frozen? ⟨X.heap.size,1,none⟩=false/\wy.frozen? ⟨X.heap.size,2,none⟩=false/\wy.frozen? ⟨X.heap.size,3,none⟩=false/\wy.frozen? ⟨X.heap.size,4,none⟩=false/\wy.frozen? ⟨X.heap.size,5,none⟩=false/\wy.frozen? ⟨X.heap.size,6,none⟩=false)/\X.heap.size<wy.heap.size:=zcK (X:=X) ⟨h.os,h.tape,h.output,h.size,h.block⟩
@[reducible] def X0(d:PlanD)(e:Option Addr)(a:Nat)(c:Option Addr)(b:Nat):PlanD:=⟨⟨none,0,0⟩,[],⟨e,d.mta.n,a⟩,d.ms,⟨none,0,0⟩,[],⟨none,0,0⟩,[],⟨none,0,0⟩,[],⟨none,0,0⟩,[],⟨c,d.out.n,b⟩,d.os⟩
abbrev FPo(w:World)(po:Nat):Nat->Prop:=fun b=>b<w.heap.size+2\/b=po
structure Lands (po : Nat) (wy we : World) : Prop where
 os : we.os = wy.os
 tape : we.tape = wy.tape
 output : we.output = wy.output
 size : wy.heap.size <= we.heap.size
 blk : ∀ k, k < wy.heap.size -> k ≠ po -> we.heap[k]? = wy.heap[k]?
theorem zb3(wy:World)(o:Obj):Lands wy.heap.size wy (wy.alloc o):=⟨rfl,rfl,rfl,by simp,fun k a _=>Below.heap_alloc _ _ _ a⟩
theorem js(po:Nat)(wy:World):Lands po wy wy:=⟨rfl,rfl,rfl,zos _,fun _ _ _=>rfl⟩
theorem Lands.put{po:Nat}{wy b:World}(h:Lands po wy b)(i:Nat)(v:Value):Lands po wy (b.setCell ⟨po,i,none⟩ v):=
 ⟨h.os,h.tape,h.output,by rw[zow];exact h.size,fun k c a=>(zop _ _ _ _ a).trans (h.blk k c a)⟩
theorem zbI{w W d wy e:World}{po:Nat}{s:QSl}{S:List Int}(h:QRow kInt.k kInt.lie (mask (old W) (fun _=>Classical.propDecidable _) d) s S)(j:w.heap.size+2<=W.heap.size)(hb:Below d.heap.size d wy)(g:po<W.heap.size\/d.heap.size<=po)(c:Lands po wy e):QRow kInt.k kInt.lie (mask (FPo w po) (fun _=>Classical.propDecidable _) e) s S:=by
 refine(h.step (Kd.keeps kInt) (w':=mask (zae (old W) po) (fun _=>Classical.propDecidable _) e) ?_).cov (Kd.covs kInt) (jt _ fun b hb=>?_)
 ·refine yT (c.os.trans hb.os) (c.tape.trans hb.tape) (c.output.trans hb.output) (zoz hb.size c.size) (fun _ h=>.inl h) fun k f hF=>?_
  have i:¬k<W.heap.size:=hF;have a:k≠po:=by omega
  exact⟨fun h=>h.elim hF a,(c.blk k (zom f hb.size) a).trans (hb.block k f)⟩
 ·rcases hb with hb|hb
  ·exact .inl (show b<W.heap.size by omega)
  ·exact .inr hb
theorem zbJ{d:PlanD}{w q a:World}{po g e:Nat}{j f:Option Addr}(c:a.cell? ⟨po,0,none⟩=some (.slice none 0 0)/\a.cell? ⟨po,1,none⟩=some (.slice j d.mta.n g)/\a.cell? ⟨po,2,none⟩=some (.slice none 0 0)/\a.cell? ⟨po,3,none⟩=some (.slice none 0 0)/\a.cell? ⟨po,4,none⟩=some (.slice none 0 0)/\a.cell? ⟨po,5,none⟩=some (.slice none 0 0)/\a.cell? ⟨po,6,none⟩=some (.slice f d.out.n e))(hz:∀i,a.frozen? ⟨po,i,none⟩=false)(ph:w.heap.size+2<=po)(pl:po<a.heap.size)
 (t:QRow kInt.k kInt.lie (mask (FPo w po) (fun _=>Classical.propDecidable _) a) ⟨j,d.mta.n,g⟩ d.ms) (l:QSl.nil0 ⟨j,d.mta.n,g⟩) (s:QRow kInt.k kInt.lie (mask (FPo w po) (fun _=>Classical.propDecidable _) a) ⟨f,d.out.n,e⟩ d.os) (m:QSl.nil0 ⟨f,d.out.n,e⟩) (o:d.out.n<=e) (hb:Below (w.heap.size+2) q a):OutAt w q po (FPo w po) (X0 d j g f e) a:=
 {c0:=c.1,c1:=c.2.1,c2:=c.2.2.1,c3:=c.2.2.2.1,c4:=c.2.2.2.2.1,c5:=c.2.2.2.2.2.1,c6:=c.2.2.2.2.2.2,fz:=hz,ph:=ph,pl:=pl,
  own0:=zoH _ _ _ _,inn0:=fun _ h=>(by cases h),blk0:=fun _ h=>(by cases h),
  own2:=zoH _ _ _ _,inn2:=fun _ h=>(by cases h),blk2:=fun _ h=>(by cases h),
  own3:=zoH _ _ _ _,inn3:=fun _ h=>(by cases h),blk3:=fun _ h=>(by cases h),
  own4:=zoH _ _ _ _,inn4:=fun _ h=>(by cases h),blk4:=fun _ h=>(by cases h),
  own5:=zoH _ _ _ _,inn5:=fun _ h=>(by cases h),blk5:=fun _ h=>(by cases h),
  ms:=t,ms0:=l,os:=s,os0:=m,oc:=o,fpo:=.inr rfl,fold:=fun b hb=>.inl hb,flt:=fun k r=>by rcases r with r|rfl<;>omega,bel:=hb}
structure zb6 (d X : PlanD) (k0 k2 k3 k4 k5 : Nat) : Prop where
 hs : X.hs.map HeadD.ws = (d.hs.take k0).map HeadD.ws
 ss : X.ss.map StateD.p = (d.ss.take k2).map StateD.p
 al : X.al.map ActD.p = (d.al.take k3).map ActD.p
 ts : X.ts.map TabD.p = (d.ts.take k4).map TabD.p
 ns : X.ns.map NodeD.p = (d.ns.take k5).map NodeD.p
 ms : X.ms = d.ms
 os : X.os = d.os
theorem zfU(d:PlanD)(e:Option Addr)(a:Nat)(c:Option Addr)(b:Nat):zb6 d (X0 d e a c b) 0 0 0 0 0:=⟨by simp,by simp,by simp,by simp,by simp,rfl,rfl⟩
theorem jb{α β :Type}{f: α->β}{S L:List α}{k:Nat}{x x': α}(h:L.map f=(S.take k).map f)(b:S[k]?=some x)(a:f x'=f x):(L++[x']).map f=(S.take (k+1)).map f:=by
 rw[List.map_append,h,zoI,b,List.map_append];simp[a]
theorem j8{α β :Type}{f: α->β}{S L:List α}{k:Nat}(h:L.map f=(S.take k).map f)(a:k<=S.length):L.length=k:=by
 have:=congrArg List.length h;simpa[Nat.min_eq_left a]using this
theorem zbj{α :Type}(K:Kd α){w:World}{B n:Nat}{T:TypeId}{v:Value}{S:List α}(h:w.ownsRow B T K.k v n (S.flatMap K.cells)):S.length=n:=by
 have:=h.1;rw[K.flat_len]at this;exact Nat.eq_of_mul_eq_mul_right K.pos this
theorem zd5{w:World}{cs:List Value}{T:TypeId}{b:Nat}(hb:b=w.heap.size):∀j u,cs[j]?=some u->(w.alloc (.cells cs.toArray T)).cell? ((⟨b,0,none⟩:Addr).add j)=some u:=by
 subst hb;exact zbH
theorem zcL{w:World}{o:Obj}{b:Nat}(h:b<w.heap.size):b<(w.alloc o).heap.size:=by rw[World.size_alloc];omega
theorem zaf{w b wr:World}{a i:Nat}{v:Value}(hb:Below (w.heap.size+2) b wr)(e:a=w.heap.size)(h:b.cell? ⟨a,i,none⟩=some v):wr.cell? ⟨a,i,none⟩=some v:=
 (hb.cell (p:=⟨a,i,none⟩) (by rw[e];show w.heap.size<_;omega)).trans h
theorem j9{wr b c:World}{po i n k:Nat}{T:TypeId}{row v:Value}{l:List Value}(h:wr.ownsRow (po+1) T k row n l)(d:b.grownBy c row.ownBlock)(f:po<b.heap.size)(g:b.cell? ⟨po,i,none⟩=some v)(j:b.frozen? ⟨po,i,none⟩=false):c.cell? ⟨po,i,none⟩=some v/\c.frozen? ⟨po,i,none⟩=false/\po<c.heap.size:=by
 have a:some po≠row.ownBlock:=fun e=>by have:=(h.lt po e.symm).1;omega
 exact⟨d.cell g a,(d.frozen_far ⟨po,i,none⟩ f a).trans j,zom f d.size⟩
theorem zfV{w b:World}{o:Obj}{n c:Nat}{a:Option Addr}{zs:List Int}(h:b.ownsRow w.heap.size 3 kInt.k (.slice a n c) n (zs.flatMap kInt.cells))(hi:∀z∈zs,wfI z):kHead.inn ⟨⟨a,n,c⟩,zs⟩ (mask (old w) (fun _=>Classical.propDecidable _) (b.alloc o)):=
 ⟨Kd.own_nil0 h,(zad (yq kInt h hi)).step (qe (ze (zof _ _)))⟩
theorem zeO{w b d:World}{x:StateD}{c:Nat}{a:Option Addr}(h:b.ownsRow w.heap.size 98 kCase.k (.slice a x.cases.n c) x.cases.n (x.cs.flatMap kCase.cells))(hi:kState.inn x w)(e:Below (mask (old w) (fun _=>Classical.propDecidable _) b).heap.size (mask (old w) (fun _=>Classical.propDecidable _) b) (mask (old w) (fun _=>Classical.propDecidable _) d)):kState.inn ⟨x.head,x.r,⟨a,x.cases.n,c⟩,x.cs,x.els⟩ (mask (old w) (fun _=>Classical.propDecidable _) d):=
 ⟨⟨hi.1.1,hi.1.2.1,hi.1.2.2.1,Kd.own_nil0 h,hi.1.2.2.2.2⟩,(yq kCase h (kCase.inns (w:=w) hi.2)).step (Kd.keeps kCase) e⟩
theorem zfW{w b d:World}{x:NodeD}{c:Nat}{a:Option Addr}(h:b.ownsRow w.heap.size 144 kPush.k (.slice a x.e.n c) x.e.n (x.es.flatMap kPush.cells))(hi:kNode.inn x w)(f:Below (mask (old w) (fun _=>Classical.propDecidable _) b).heap.size (mask (old w) (fun _=>Classical.propDecidable _) b) (mask (old w) (fun _=>Classical.propDecidable _) d)):kNode.inn ⟨x.kind,x.n,⟨a,x.e.n,c⟩,x.es,x.yes,x.no⟩ (mask (old w) (fun _=>Classical.propDecidable _) d):=
 ⟨⟨hi.1.1,hi.1.2.1,Kd.own_nil0 h,hi.1.2.2.2.1,hi.1.2.2.2.2⟩,(yq kPush h (kPush.inns (w:=w) hi.2)).step (Kd.keeps kPush) f⟩
theorem zbK{W a:World}{b i:Nat}{v:Value}{o:Obj}(hb:b<W.heap.size):Below (mask (old W) (fun _=>Classical.propDecidable _) a).heap.size (mask (old W) (fun _=>Classical.propDecidable _) a) (mask (old W) (fun _=>Classical.propDecidable _) ((a.setCell ⟨b,i,none⟩ v).alloc o)):=by
 refine yT rfl rfl rfl (by rw[World.size_alloc,zow];omega) (fun _ h=>h) fun k c hF=>⟨hF,?_⟩
 have d:¬k<W.heap.size:=hF;rw[Below.heap_alloc _ _ _ (by rw[zow];exact c),zop _ _ _ _ (by show k≠b;omega)]
structure ActAt (w0 : World) (pa : Nat) (x : ActD) (aw : Option Addr) (cw : Nat) (F : Nat -> Prop) (oa : Option Addr) (oc : Nat) (S : List OpD) (wr : World) : Prop where
 c0 : wr.cell? ⟨pa, 0, none⟩ = some (.slice aw x.w.n cw)
 c1 : wr.cell? ⟨pa, 1, none⟩ = some (.slice oa S.length oc)
 fz : ∀ i, wr.frozen? ⟨pa, i, none⟩ = false
 ph : w0.heap.size <= pa
 pl : pa < wr.heap.size
 own : wr.ownsRow (pa + 1) 59 kOp.k (.slice oa S.length oc) S.length (S.flatMap kOp.cells)
 inn : ∀ o ∈ S, kOp.inn o (mask F (fun _ => Classical.propDecidable _) wr)
 blk : ∀ b, (Value.slice oa S.length oc).ownBlock = some b -> F b
 ws : QRow kInt.k kInt.lie (mask F (fun _ => Classical.propDecidable _) wr) ⟨aw, x.w.n, cw⟩ x.ws
 ws0 : QSl.nil0 ⟨aw, x.w.n, cw⟩
 fpa : F pa
 fold : ∀ b, b < w0.heap.size -> F b
 flt : ∀ k, F k -> k < wr.heap.size
 bel : Below w0.heap.size w0 wr
theorem ActAt.push{w0 wr m r W:World}{d g c:Nat}{x:ActD}{aw q:Option Addr}{w oc:Nat}{F:Nat->Prop}{S:List OpD}{x':OpD}(h:ActAt w0 d x aw w F q oc S wr)(hb:Below wr.heap.size wr m)(G:wr.heap.size<=W.heap.size)(t:kOp.inn x' (mask (old W) (fun _=>Classical.propDecidable _) m))
 (B:r.ownsRow (d+1) 59 kOp.k (.slice (some ⟨g,0,none⟩) (S.length+1) c) (S.length+1) (S.flatMap kOp.cells++kOp.cells x')) (f:m.grownBy r (Value.slice q S.length oc).ownBlock) (n:q=some ⟨g,0,none⟩\/m.heap.size<=g):
 ActAt w0 d x aw w (zae F g) (some ⟨g,0,none⟩) c (S++[x']) (r.setCell ⟨d,1,none⟩ (.slice (some ⟨g,0,none⟩) (S.length+1) c)):=by
 have D:Turn wr m (r.setCell ⟨d,1,none⟩ (.slice (some ⟨g,0,none⟩) (S.length+1) c)) d g (Value.slice q S.length oc).ownBlock F:=
  ⟨hb,f.os,f.tape,f.output,by rw[zow];exact f.size,fun k j I H=>(zop _ _ _ _ I).trans (f.block k j H),h.fpa,h.blk,h.flt,n.elim (fun e=>.inl (by rw[e];rfl)) .inr⟩
 have A:=D.mask;have i:some d≠(Value.slice q S.length oc).ownBlock:=fun e=>by have:=(h.own.lt d e.symm).1;omega
 have E:=h.pl;have J:=hb.size;have K:=f.size;have u:=(B.lt g rfl);have C:(S++[x']).length=S.length+1:=by simp
 exact{
  c0:=(zou _ _ _ _ (by simp)).trans (f.cell (za h.c0 hb) i)
  c1:=by rw[C];exact zot _ _ _ (f.cell (za h.c1 hb) i)
  fz:=fun o=>by rw[World.frozen?_setCell,f.frozen_far ⟨d,o,none⟩ (by show d<_;omega) i,hb.frozen (p:=⟨d,o,none⟩) (by show d<_;omega)];exact h.fz o
  ph:=h.ph
  pl:=by rw[zow];omega
  own:=by
   have:=ownsRow_setCell_below B (a:=⟨d,1,none⟩) (zoF _) (.slice (some ⟨g,0,none⟩) (S.length+1) c);rw[C,show(S++[x']).flatMap kOp.cells=S.flatMap kOp.cells++kOp.cells x' by simp]
   exact this
  inn:=fun y l=>by
   rcases List.mem_append.1 l with l|l
   ·exact kOp.step (h.inn y l) A
   ·simp only[zoD,zoA,or_false]at l;rw[l];exact D.fresh G kOp t
  blk:=fun b hb=>.inr (zoq hb).symm
  ws:=h.ws.step (Kd.keeps kInt) A
  ws0:=h.ws0
  fpa:=.inl h.fpa
  fold:=fun b hb=>.inl (h.fold b hb)
  flt:=fun k j=>by
   rw[zow];rcases j with j|rfl
   ·have:=h.flt k j;omega
   ·exact u.2
  bel:=by
   have s:=h.bel.size;have:=h.ph;refine zoV ?_ (by show w0.heap.size<=d;omega) _
   refine(h.bel.trans (hb.mono s)).grown f (by omega) fun k j=>?_
   have:=(h.own.lt k j).1;omega}
theorem ActAt.start{w0 c:World}{x:ActD}{aw:Option Addr}{d:Nat}(e:c.ownsRow w0.heap.size 3 kInt.k (.slice aw x.w.n d) x.w.n (x.ws.flatMap kInt.cells))(hi:∀z∈x.ws,wfI z)(hb:Below w0.heap.size w0 c):ActAt w0 c.heap.size x aw d (zae (old w0) c.heap.size) none 0 [] (c.alloc (.cells #[.slice aw x.w.n d,.slice none 0 0] 56)):=
 {c0:=(zod _ _ _ _ rfl).trans rfl,c1:=(zod _ _ _ _ rfl).trans rfl,fz:=fun i=>zoB _ _ _ _ rfl,ph:=hb.size,pl:=by simp
  own:=zoH _ _ _ _,inn:=fun _ h=>(by cases h),blk:=fun _ h=>(by cases h)
  ws:=(yq kInt e hi).step (Kd.keeps kInt) (yT rfl rfl rfl (by simp) (fun _ h=>.inl h) fun k a hF=>⟨fun h=>h.elim hF (by omega),Below.heap_alloc _ _ _ a⟩)
  ws0:=Kd.own_nil0 e,fpa:=.inr rfl,fold:=fun b hb=>.inl hb
  flt:=fun k a=>by
   rw[World.size_alloc];have:=hb.size;rcases a with a|a
   ·have f:k<w0.heap.size:=a;omega
   ·omega
  bel:=ze hb}
theorem ActAt.done{w0 wr:World}{j:Nat}{x:ActD}{aw f:Option Addr}{i oc:Nat}{F:Nat->Prop}{S:List OpD}{o:Obj}(h:ActAt w0 j x aw i F f oc S wr):kAct.inn ⟨⟨aw,x.w.n,i⟩,x.ws,⟨f,S.length,oc⟩,S⟩ (mask (old w0) (fun _=>Classical.propDecidable _) (wr.alloc o)):=by
 have d:Cov (mask F (fun _=>Classical.propDecidable _) wr) (mask (old w0) (fun _=>Classical.propDecidable _) wr):=jt _ fun b hb=>h.fold b hb
 have a:Below (mask (old w0) (fun _=>Classical.propDecidable _) wr).heap.size (mask (old w0) (fun _=>Classical.propDecidable _) wr) (mask (old w0) (fun _=>Classical.propDecidable _) (wr.alloc o)):=qe (ze (zof _ _))
 refine kAct.step (w:=mask (old w0) (fun _=>Classical.propDecidable _) wr) ⟨⟨h.ws0,Kd.own_nil0 h.own⟩,zad (h.ws.cov (Kd.covs kInt) d),?_⟩ a
 refine kOp.row (base:=w0.heap.size) (T:=59) ⟨h.own.1,?_⟩ fun s hs=>kOp.cov (h.inn s hs) d
 rcases h.own.2 with l|⟨g,cap,c,e,hb,m,r⟩
 ·exact .inl l
 ·have:=h.ph;exact .inr ⟨g,cap,c,e,by omega,(yA (F:=old w0) (k:=g) (show¬g<w0.heap.size by omega)).trans m,r⟩
theorem zj6{w b d:World}{x:OpD}{c:Nat}{a:Option Addr}(h:b.ownsRow w.heap.size 144 kPush.k (.slice a x.e.n c) x.e.n (x.es.flatMap kPush.cells))(hi:kOp.inn x w)(f:Below (mask (old w) (fun _=>Classical.propDecidable _) b).heap.size (mask (old w) (fun _=>Classical.propDecidable _) b) (mask (old w) (fun _=>Classical.propDecidable _) d)):kOp.inn ⟨x.kind,x.r,x.head,⟨a,x.e.n,c⟩,x.es⟩ (mask (old w) (fun _=>Classical.propDecidable _) d):=
 ⟨⟨hi.1.1,hi.1.2.1,hi.1.2.2.1,hi.1.2.2.2.1,Kd.own_nil0 h⟩,(yq kPush h (kPush.inns (w:=w) hi.2)).step (Kd.keeps kPush) f⟩
theorem zmv{α :Type}(K:Kd α){ops:Array Oper}{o:Oper}{a:Act}{w:World}{t:Act->World->Prop}{Q:Exit->Act->World->Prop}{E:Prop}{T l:TypeId}{z:Value}{bs:Nat}
 (C:Tryz.prog.underlying l=some (.slice T)) (b:(Tryz.prog.info? T).map (fun i=>(i.zero,i.size,i.bytes))=some (some z,K.k,bs)) (r:z.cells.size=K.k) (m:bs<=1000) (g:o.guard=none) (s x:Operand)
 (y:o.op=.call {callee:=.builtin .append,args:= #[s,x],argTypes:= #[l,l]}) (q:QSl) (S:List α) (hs:a.eval s=.slice none 0 0) (D:a.eval x=.slice q.a q.n q.c) (F:QRow K.k K.lie w q S) (A:q.nil0) (j:q.n<=100000)
 (h:∀e f w',w'.ownsRow w.heap.size T K.k (.slice e q.n f) q.n (S.flatMap K.cells)->Below w.heap.size w w'->t (a.put o.dst (.slice e q.n f)) w'):
 if Region.wanted o (yielded ops a.tmps)=true then Oper.wp Tryz.prog o a w t Q else E:=by
 obtain⟨e,f,w',d,B,u⟩:=zau K o.type C b r m F A j;exact zac g s x y hs D d (h e f w' B u)
theorem zfX{W a:World}{b i j k:Nat}{v u t:Value}{o:Obj}(hb:b<W.heap.size):Below (mask (old W) (fun _=>Classical.propDecidable _) a).heap.size (mask (old W) (fun _=>Classical.propDecidable _) a) (mask (old W) (fun _=>Classical.propDecidable _) ((((a.setCell ⟨b,i,none⟩ v).setCell ⟨b,j,none⟩ u).setCell ⟨b,k,none⟩ t).alloc o)):=by
 refine yT rfl rfl rfl (by simp only[World.size_alloc,zow];omega) (fun _ h=>h) fun n c hF=>⟨hF,?_⟩
 have d:¬n<W.heap.size:=hF;rw[Below.heap_alloc _ _ _ (by simp only[zow];exact c),zop _ _ _ _ (by show n≠b;omega),zop _ _ _ _ (by show n≠b;omega),zop _ _ _ _ (by show n≠b;omega)]
theorem zh1{W c a d g:World}{x:TabD}{t j l:Nat}{i f o:Option Addr}(q:c.ownsRow W.heap.size 48 kRef.k (.slice i x.keys.n t) x.keys.n (x.ks.flatMap kRef.cells))(A:Below W.heap.size W c)(m:a.ownsRow c.heap.size 3 kInt.k (.slice f x.acts.n j) x.acts.n (x.al.flatMap kInt.cells))(h:Below c.heap.size c a)(s:d.ownsRow a.heap.size 96 kNum.k (.slice o x.args.n l) x.args.n (x.zs.flatMap kNum.cells))(r:Below a.heap.size a d)
 (hi:kTab.inn x W) (e:Below (mask (old W) (fun _=>Classical.propDecidable _) d).heap.size (mask (old W) (fun _=>Classical.propDecidable _) d) (mask (old W) (fun _=>Classical.propDecidable _) g)):kTab.inn ⟨x.kind,⟨i,x.keys.n,t⟩,x.ks,⟨f,x.acts.n,j⟩,x.al,x.cap,x.dflt,⟨o,x.args.n,l⟩,x.zs⟩ (mask (old W) (fun _=>Classical.propDecidable _) g):=by
 have s1:=A.size;have s2:=h.size;have B:=((yq kRef q (kRef.inns (w:=W) hi.2.1)).step (Kd.keeps kRef) (qe h)).step (Kd.keeps kRef) (qe r);have u:=((yq kInt m hi.2.2.1.2.1).cov (Kd.covs kInt) (jt a (F':=old W) fun b (hb:b<W.heap.size)=>show b<c.heap.size by omega)).step (Kd.keeps kInt) (qe r)
 have y:=(yq kNum s hi.2.2.2.2.1).cov (Kd.covs kNum) (jt d (F':=old W) fun b (hb:b<W.heap.size)=>show b<a.heap.size by omega)
 exact⟨⟨hi.1.1,Kd.own_nil0 q,Kd.own_nil0 m,hi.1.2.2.2.1,hi.1.2.2.2.2.1,Kd.own_nil0 s⟩,B.step (Kd.keeps kRef) e,zad (u.step (Kd.keeps kInt) e),zj3 (y.step (Kd.keeps kNum) e)⟩
theorem zm1{w d wr:World}{po a:Nat}{F:Nat->Prop}{X:PlanD}(h:OutAt w d po F X wr)(hb:a<w.heap.size+2){v0 v1 v2 v3 v4 v5 v6:Value}:Below (mask F (fun _=>Classical.propDecidable _) wr).heap.size (mask F (fun _=>Classical.propDecidable _) wr) (mask F (fun _=>Classical.propDecidable _) ((((((((wr).setCell ⟨a,0,none⟩ v0).setCell ⟨a,1,none⟩ v1).setCell ⟨a,2,none⟩ v2).setCell ⟨a,3,none⟩ v3).setCell ⟨a,4,none⟩ v4).setCell ⟨a,5,none⟩ v5).setCell ⟨a,6,none⟩ v6)):=by
 have b:Lands a wr ((((((((wr).setCell ⟨a,0,none⟩ v0).setCell ⟨a,1,none⟩ v1).setCell ⟨a,2,none⟩ v2).setCell ⟨a,3,none⟩ v3).setCell ⟨a,4,none⟩ v4).setCell ⟨a,5,none⟩ v5).setCell ⟨a,6,none⟩ v6):=(((((((js _ _).put _ _).put _ _).put _ _).put _ _).put _ _).put _ _).put _ _;exact yT b.os b.tape b.output b.size (fun _ h=>h) fun k c hF=>⟨hF,b.blk k c fun e=>hF (e▸h.fold a hb)⟩
theorem OutAt.end{d:PlanD}{w s wr:World}{po b:Nat}{F:Nat->Prop}{X:PlanD}(h:OutAt w s po F X wr)(l:d.lie w)(j:zb6 d X d.heads.n d.states.n d.acts.n d.tabs.n d.nodes.n)(hb:Below w.heap.size w wr)(B:b=w.heap.size+1){v0 v1 v2 v3 v4 v5 v6:Value}:zeV d w (.returned X.v) ((((((((wr).setCell ⟨b,0,none⟩ v0).setCell ⟨b,1,none⟩ v1).setCell ⟨b,2,none⟩ v2).setCell ⟨b,3,none⟩ v3).setCell ⟨b,4,none⟩ v4).setCell ⟨b,5,none⟩ v5).setCell ⟨b,6,none⟩ v6):=by
 have o:b<w.heap.size+2:=by omega
 have r:=zm1 h o (v0:=v0) (v1:=v1) (v2:=v2) (v3:=v3) (v4:=v4) (v5:=v5) (v6:=v6);have q:=zeS F ((((((((wr).setCell ⟨b,0,none⟩ v0).setCell ⟨b,1,none⟩ v1).setCell ⟨b,2,none⟩ v2).setCell ⟨b,3,none⟩ v3).setCell ⟨b,4,none⟩ v4).setCell ⟨b,5,none⟩ v5).setCell ⟨b,6,none⟩ v6);have A:=h.ph;have row:∀{α :Type} (K:Kd α) {T:TypeId} {v:Value} {n:Nat} {m:List Value},wr.ownsRow (po+1) T K.k v n m->((((((((wr).setCell ⟨b,0,none⟩ v0).setCell ⟨b,1,none⟩ v1).setCell ⟨b,2,none⟩ v2).setCell ⟨b,3,none⟩ v3).setCell ⟨b,4,none⟩ v4).setCell ⟨b,5,none⟩ v5).setCell ⟨b,6,none⟩ v6).ownsRow (po+1) T K.k v n m:=fun K T v n m t=>by
  have e:b<po+1:=by omega
  exact ownsRow_setCell_below (ownsRow_setCell_below (ownsRow_setCell_below (ownsRow_setCell_below (ownsRow_setCell_below (ownsRow_setCell_below (ownsRow_setCell_below (t) (a:=⟨b,0,none⟩) e v0) (a:=⟨b,1,none⟩) e v1) (a:=⟨b,2,none⟩) e v2) (a:=⟨b,3,none⟩) e v3) (a:=⟨b,4,none⟩) e v4) (a:=⟨b,5,none⟩) e v5) (a:=⟨b,6,none⟩) e v6
 have g:∀{α :Type} (K:Kd α) {x: α},K.inn x (mask F (fun _=>Classical.propDecidable _) wr)->K.inn x ((((((((wr).setCell ⟨b,0,none⟩ v0).setCell ⟨b,1,none⟩ v1).setCell ⟨b,2,none⟩ v2).setCell ⟨b,3,none⟩ v3).setCell ⟨b,4,none⟩ v4).setCell ⟨b,5,none⟩ v5).setCell ⟨b,6,none⟩ v6):=fun K x i=>K.cov (K.step i r) q
 have c:∀{α β :Type} {f: α->β} {L S:List α} {n:Nat},L.map f=(S.take n).map f->S.length=n->L.map f=S.map f:=fun y u=>by rw[y,List.take_of_length_le (Nat.le_of_eq u)]
 refine⟨X,rfl,⟨kHead.row (row kHead h.own0) fun x i=>g kHead (h.inn0 x i),zad ((h.ms.step (Kd.keeps kInt) r).cov (Kd.covs kInt) q),kState.row (row kState h.own2) fun x i=>g kState (h.inn2 x i),kAct.row (row kAct h.own3) fun x i=>g kAct (h.inn3 x i),kTab.row (row kTab h.own4) fun x i=>g kTab (h.inn4 x i),kNode.row (row kNode h.own5) fun x i=>g kNode (h.inn5 x i),zad ((h.os.step (Kd.keeps kInt) r).cov (Kd.covs kInt) q),h.oc⟩,⟨Kd.own_nil0 h.own0,h.ms0,Kd.own_nil0 h.own2,Kd.own_nil0 h.own3,Kd.own_nil0 h.own4,Kd.own_nil0 h.own5,h.os0⟩,?_,?_⟩
 ·simp only[PlanD.p,c j.hs l.hs.1,c j.ss l.ss.1,c j.al l.al.1,c j.ts l.ts.1,c j.ns l.ns.1,j.ms,j.os]
 ·exact(((((((hb).setCell (by show w.heap.size<=b;omega) _).setCell (by show w.heap.size<=b;omega) _).setCell (by show w.heap.size<=b;omega) _).setCell (by show w.heap.size<=b;omega) _).setCell (by show w.heap.size<=b;omega) _).setCell (by show w.heap.size<=b;omega) _).setCell (by show w.heap.size<=b;omega) _
theorem set7{w:World}{p b i:Nat}{v v0 v1 v2 v3 v4 v5 v6:Value}(h:w.cell? ⟨b,i,none⟩=some v)(a:¬(p=b)):((((((((w).setCell ⟨p,0,none⟩ v0).setCell ⟨p,1,none⟩ v1).setCell ⟨p,2,none⟩ v2).setCell ⟨p,3,none⟩ v3).setCell ⟨p,4,none⟩ v4).setCell ⟨p,5,none⟩ v5).setCell ⟨p,6,none⟩ v6).cell? ⟨b,i,none⟩=some v:=by
 simp only[zou _ _ _ _ (show(⟨p,_,none⟩:Addr)≠⟨b,i,none⟩from fun e=>a (congrArg Addr.block e))]
 exact h
theorem znI{w:World}{p:Nat}{u0 u1 u2 u3 u4 u5 u6 v0 v1 v2 v3 v4 v5 v6:Value}(h:w.cell? ⟨p,0,none⟩=some u0/\w.cell? ⟨p,1,none⟩=some u1/\w.cell? ⟨p,2,none⟩=some u2/\w.cell? ⟨p,3,none⟩=some u3/\w.cell? ⟨p,4,none⟩=some u4/\w.cell? ⟨p,5,none⟩=some u5/\w.cell? ⟨p,6,none⟩=some u6):((((((((w).setCell ⟨p,0,none⟩ v0).setCell ⟨p,1,none⟩ v1).setCell ⟨p,2,none⟩ v2).setCell ⟨p,3,none⟩ v3).setCell ⟨p,4,none⟩ v4).setCell ⟨p,5,none⟩ v5).setCell ⟨p,6,none⟩ v6).cell? ⟨p,0,none⟩=some v0/\((((((((w).setCell ⟨p,0,none⟩ v0).setCell ⟨p,1,none⟩ v1).setCell ⟨p,2,none⟩ v2).setCell ⟨p,3,none⟩ v3).setCell ⟨p,4,none⟩ v4).setCell ⟨p,5,none⟩ v5).setCell ⟨p,6,none⟩ v6).cell? ⟨p,1,none⟩=some v1/\((((((((w).setCell ⟨p,0,none⟩ v0).setCell ⟨p,1,none⟩ v1).setCell ⟨p,2,none⟩ v2).setCell ⟨p,3,none⟩ v3).setCell ⟨p,4,none⟩ v4).setCell ⟨p,5,none⟩ v5).setCell ⟨p,6,none⟩ v6).cell? ⟨p,2,none⟩=some v2/\((((((((w).setCell ⟨p,0,none⟩ v0).setCell ⟨p,1,none⟩ v1).setCell ⟨p,2,none⟩ v2).setCell ⟨p,3,none⟩ v3).setCell ⟨p,4,none⟩ v4).setCell ⟨p,5,none⟩ v5).setCell ⟨p,6,none⟩ v6).cell? ⟨p,3,none⟩=some v3/\((((((((w).setCell ⟨p,0,none⟩ v0).setCell ⟨p,1,none⟩ v1).setCell ⟨p,2,none⟩ v2).setCell ⟨p,3,none⟩ v3).setCell ⟨p,4,none⟩ v4).setCell ⟨p,5,none⟩ v5).setCell ⟨p,6,none⟩ v6).cell? ⟨p,4,none⟩=some v4/\((((((((w).setCell ⟨p,0,none⟩ v0).setCell ⟨p,1,none⟩ v1).setCell ⟨p,2,none⟩ v2).setCell ⟨p,3,none⟩ v3).setCell ⟨p,4,none⟩ v4).setCell ⟨p,5,none⟩ v5).setCell ⟨p,6,none⟩ v6).cell? ⟨p,5,none⟩=some v5/\((((((((w).setCell ⟨p,0,none⟩ v0).setCell ⟨p,1,none⟩ v1).setCell ⟨p,2,none⟩ v2).setCell ⟨p,3,none⟩ v3).setCell ⟨p,4,none⟩ v4).setCell ⟨p,5,none⟩ v5).setCell ⟨p,6,none⟩ v6).cell? ⟨p,6,none⟩=some v6:=by
 obtain⟨k,o,l,f,n,m,g⟩:=h;have a:∀{W:World} {i j:Nat} {v x:Value},i≠j->W.cell? ⟨p,j,none⟩=some x->(W.setCell ⟨p,i,none⟩ v).cell? ⟨p,j,none⟩=some x:=fun c d=>(zou _ _ _ _ (fun e=>c (congrArg Addr.off e))).trans d
 have b:∀{W:World} {j:Nat} {v x:Value},W.cell? ⟨p,j,none⟩=some x->(W.setCell ⟨p,j,none⟩ v).cell? ⟨p,j,none⟩=some v:=fun d=>zot _ _ _ d
 exact⟨(a (by decide) (a (by decide) (a (by decide) (a (by decide) (a (by decide) (a (by decide) (b k))))))),(a (by decide) (a (by decide) (a (by decide) (a (by decide) (a (by decide) (b (a (by decide) o))))))),(a (by decide) (a (by decide) (a (by decide) (a (by decide) (b (a (by decide) (a (by decide) l))))))),(a (by decide) (a (by decide) (a (by decide) (b (a (by decide) (a (by decide) (a (by decide) f))))))),(a (by decide) (a (by decide) (b (a (by decide) (a (by decide) (a (by decide) (a (by decide) n))))))),(a (by decide) (b (a (by decide) (a (by decide) (a (by decide) (a (by decide) (a (by decide) m))))))),(b (a (by decide) (a (by decide) (a (by decide) (a (by decide) (a (by decide) (a (by decide) g)))))))⟩
theorem zj7(d:PlanD)(w:World)(hl:d.lie w)(h0:d.nil0)(hf:d.fits):Calls Tryz.prog 6 #[d.v] w (zeV d w):=by
 obtain⟨B,b0,b1,eW,e0,e1,j0,hc,hz,l0⟩:=zif d w;have HB:Hid (Below w.heap.size w B):=by rw[eW];exact ze (ze (zof _ _))
 have HS:=hid j0;have EW:=hid eW;have E0:=hid e0;have E1:=hid e1;have e2:=hid hz;have m3:=hid l0;have ZC:=hid hc;obtain⟨z0,z1,z2,z3,z4,z5,z6⟩:=hc;have k5:Hid (∀w',Below B.heap.size B w'->Calls Tryz.prog 16 #[.slice d.mta.a d.mta.n d.mta.c] w' (CopyDone kInt 3 d.ms d.mta.n w')):=fun w' h=>kI d.mta d.ms w' (hl.ms.step (zh HB.out h)) h0.ms hf.ms
 have l1:Hid (∀w',Below B.heap.size B w'->Calls Tryz.prog 16 #[.slice d.out.a d.out.n d.out.c] w' (CopyDone kInt 3 d.os d.out.n w')):=fun w' h=>kI d.out d.os w' (hl.os.step (zh HB.out h)) h0.os hf.os
 have g8:=hid hl.ms.2.1;have g9:=hid hl.os.2.1;have l:=hid (zof B.heap.size B).drew;have b2:=hid (zof B.heap.size B);clear eW e0 e1 hz l0 j0;go_enter Tryz.func6,Tryz.ntmps6
 have g7:Hid (∀w',Below B.heap.size B w'->¬(w'.heap.size=b0)/\¬(b0=w'.heap.size)/\b0<w'.heap.size):=fun w' h=>by
  have:=h.size;rw[HS.out]at this;rw[E0.out];omega
 obtain⟨i4,k2,m0⟩:=g7.out B (zof _ _);go_upto_region 1 with fail
 rw[<-EW.out,<-E1.out,<-E0.out];go_cut [3] (fun v3 wx=>∃(po:Nat) (am ao:Option Addr) (cm co:Nat),v3=.pointer (some ⟨po,0,none⟩)/\Hid (OutAt w B po (FPo w po) (X0 d am cm ao co) wx))
 case first=>
  go_region_held3 (fun w'=>w'.cell? ⟨b0,1,none⟩=some (.slice d.mta.a d.mta.n d.mta.c)/\w'.cell? ⟨b0,6,none⟩=some (.slice d.out.a d.out.n d.out.c))
   (first
    |(with_reducible exact⟨za z1 l.out,za z6 l.out⟩)
    |(with_reducible exact⟨za z1 (ze b2.out).drew,za z6 (ze b2.out).drew⟩)
    |(with_reducible exact⟨za z1 (ze l.out),za z6 (ze l.out)⟩)
    |(with_reducible exact⟨set7 (za z1 l.out) (by first|exact i4|exact k4),set7 (za z6 l.out) (by first|exact i4|exact k4)⟩)
    |go_keep)
   (first
    |(go_at_call 16;(with_reducible refine(k5.out _ (by with_reducible first|exact l.out|exact ze l.out|exact(ze b2.out).drew)).mono ?_);rintro e wx ⟨am,cm,rfl,e5,A⟩;have n7:=l;have l2:=A;have l:=hid (zh (by with_reducible first|exact l.out|exact ze l.out|exact(ze b2.out).drew) A);obtain⟨k4,m6,n6⟩:=g7.out _ l.out;(first|((first|(with_reducible have C:=zdz A)|(with_reducible have C:=zcK A));have t0:=C.1.1;have f0:=C.2.1.1;have t1:=C.1.2.1;have f1:=C.2.1.2.1;have t2:=C.1.2.2.1;have f2:=C.2.1.2.2.1;have t3:=C.1.2.2.2.1;have f3:=C.2.1.2.2.2.1;have t4:=C.1.2.2.2.2.1;have f4:=C.2.1.2.2.2.2.1;have t5:=C.1.2.2.2.2.2.1;have f5:=C.2.1.2.2.2.2.2.1;have t6:=C.1.2.2.2.2.2.2;have f6:=C.2.1.2.2.2.2.2.2;have b3:=C.2.2)|skip))
    |(go_at_call 16;(with_reducible refine(l1.out _ (by with_reducible first|exact l.out|exact ze l.out|exact(ze b2.out).drew)).mono ?_);rintro e wy ⟨ao,co,rfl,d5,A⟩;have i6:=l;have l:=hid (zh (by with_reducible first|exact l.out|exact ze l.out|exact(ze b2.out).drew) A);obtain⟨n4,m7,n1⟩:=g7.out _ l.out;(first|((first|(with_reducible have C:=zdz A)|(with_reducible have C:=zcK A));have t0:=C.1.1;have f0:=C.2.1.1;have t1:=C.1.2.1;have f1:=C.2.1.2.1;have t2:=C.1.2.2.1;have f2:=C.2.1.2.2.1;have t3:=C.1.2.2.2.1;have f3:=C.2.1.2.2.2.1;have t4:=C.1.2.2.2.2.1;have f4:=C.2.1.2.2.2.2.1;have t5:=C.1.2.2.2.2.2.1;have f5:=C.2.1.2.2.2.2.2.1;have t6:=C.1.2.2.2.2.2.2;have f6:=C.2.1.2.2.2.2.2.2;have b3:=C.2.2)|(have t0:=za t0 A;have f0:=(A.frozen (p:=⟨B.heap.size,0,none⟩) b3).trans f0;have t1:=za t1 A;have f1:=(A.frozen (p:=⟨B.heap.size,1,none⟩) b3).trans f1;have t2:=za t2 A;have f2:=(A.frozen (p:=⟨B.heap.size,2,none⟩) b3).trans f2;have t3:=za t3 A;have f3:=(A.frozen (p:=⟨B.heap.size,3,none⟩) b3).trans f3;have t4:=za t4 A;have f4:=(A.frozen (p:=⟨B.heap.size,4,none⟩) b3).trans f4;have t5:=za t5 A;have f5:=(A.frozen (p:=⟨B.heap.size,5,none⟩) b3).trans f5;have t6:=za t6 A;have f6:=(A.frozen (p:=⟨B.heap.size,6,none⟩) b3).trans f6;have h7:=b3;have b3:=zom b3 A.size)|skip)))
  ·have g3:Hid (OutAt w B wy.heap.size (FPo w wy.heap.size) (X0 d am cm ao co) (wy.alloc (.cells #[.slice none 0 0,.slice am d.mta.n cm,.slice none 0 0,.slice none 0 0,.slice none 0 0,.slice none 0 0,.slice ao d.out.n co] 29))):=by
    have e8:=HS.out;have h1:=i6.out.size;have h2:=l.out.size;obtain⟨_,_,e6,d7,_⟩:=jR d5;simp only[zox,true_and]at e6;refine zbJ ⟨(zod _ _ _ _ rfl).trans rfl,(zod _ _ _ _ rfl).trans rfl,(zod _ _ _ _ rfl).trans rfl,(zod _ _ _ _ rfl).trans rfl,(zod _ _ _ _ rfl).trans rfl,(zod _ _ _ _ rfl).trans rfl,(zod _ _ _ _ rfl).trans rfl⟩ (fun i=>zoB _ _ _ _ rfl) (by omega) (by simp) (zbI (W:=B.drew) (yq kInt e5 g8.out) (by show _<=B.heap.size;omega) A (.inr (by have:=A.size;omega)) (zb3 wy _)) (Kd.own_nil0 e5) (zbI (W:=wx) (yq kInt d5 g9.out) (by omega) (zof _ _) (.inr (zos _)) (zb3 wy _)) (Kd.own_nil0 d5) (by rw[e6.2];exact d7) ?_
    rw[<-e8];exact ze l.out
   go_wp2_with fail
   go_meet
   exact⟨_,am,ao,cm,co,rfl,g3⟩
  ·have g3:Hid (OutAt w B wx.heap.size (FPo w wx.heap.size) (X0 d am cm ao co) ((((((((wy).setCell ⟨wx.heap.size,0,none⟩ (.slice none 0 0)).setCell ⟨wx.heap.size,1,none⟩ (.slice am d.mta.n cm)).setCell ⟨wx.heap.size,2,none⟩ (.slice none 0 0)).setCell ⟨wx.heap.size,3,none⟩ (.slice none 0 0)).setCell ⟨wx.heap.size,4,none⟩ (.slice none 0 0)).setCell ⟨wx.heap.size,5,none⟩ (.slice none 0 0)).setCell ⟨wx.heap.size,6,none⟩ (.slice ao d.out.n co))):=by
    have e8:=HS.out;have h1:=i6.out.size;have h2:=l.out.size;have h3:=A.size;obtain⟨_,_,e6,d7,_⟩:=jR d5;simp only[zox,true_and]at e6;refine zbJ (znI ⟨t0,t1,t2,t3,t4,t5,t6⟩) (fun i=>?_) (by omega) (by simp only[zow];omega) (zbI (W:=B.drew) (wy:=wy) (yq kInt e5 g8.out) (by show _<=B.heap.size;omega) (zh (ze (zof _ _)) A) (.inr (zos _)) ((((((((js _ _).put _ _).put _ _).put _ _).put _ _).put _ _).put _ _).put _ _)) (Kd.own_nil0 e5) (zbI (W:=wx.alloc _) (yq kInt d5 g9.out) (by rw[World.size_alloc];omega) (zof _ _) (.inl (by rw[World.size_alloc];omega)) ((((((((js _ _).put _ _).put _ _).put _ _).put _ _).put _ _).put _ _).put _ _)) (Kd.own_nil0 d5) (by rw[e6.2];exact d7) ?_
    ·simp only[World.frozen?_setCell];exact(A.frozen (p:=⟨wx.heap.size,i,none⟩) (by simp)).trans (zoB _ _ _ _ rfl)
    ·exact zoV (zoV (zoV (zoV (zoV (zoV (zoV ((by rw[<-e8];exact l.out:Below (w.heap.size+2) B wy)) (by show w.heap.size+2<=wx.heap.size;omega) _) (by show w.heap.size+2<=wx.heap.size;omega) _) (by show w.heap.size+2<=wx.heap.size;omega) _) (by show w.heap.size+2<=wx.heap.size;omega) _) (by show w.heap.size+2<=wx.heap.size;omega) _) (by show w.heap.size+2<=wx.heap.size;omega) _) (by show w.heap.size+2<=wx.heap.size;omega) _
   go_wp2_with fail
   go_meet
   exact⟨_,am,ao,cm,co,rfl,g3⟩
  ·have g3:Hid (OutAt w B B.heap.size (FPo w B.heap.size) (X0 d am cm ao co) ((((((((wy).setCell ⟨B.heap.size,0,none⟩ (.slice none 0 0)).setCell ⟨B.heap.size,1,none⟩ (.slice am d.mta.n cm)).setCell ⟨B.heap.size,2,none⟩ (.slice none 0 0)).setCell ⟨B.heap.size,3,none⟩ (.slice none 0 0)).setCell ⟨B.heap.size,4,none⟩ (.slice none 0 0)).setCell ⟨B.heap.size,5,none⟩ (.slice none 0 0)).setCell ⟨B.heap.size,6,none⟩ (.slice ao d.out.n co))):=by
    have e8:=HS.out;have h1:=i6.out.size;have h2:=l.out.size;have h3:=A.size;obtain⟨_,_,e6,d7,_⟩:=jR d5;simp only[zox,true_and]at e6;refine zbJ (znI ⟨t0,t1,t2,t3,t4,t5,t6⟩) (fun i=>?_) (by omega) (by simp only[zow];omega) (zbI (W:=(B.alloc _).drew) (wy:=wy) (yq kInt e5 g8.out) (by show _<=(B.alloc _).heap.size;rw[World.size_alloc];omega) A (.inl (by show _<(B.alloc _).heap.size;rw[World.size_alloc];omega)) ((((((((js _ _).put _ _).put _ _).put _ _).put _ _).put _ _).put _ _).put _ _)) (Kd.own_nil0 e5) (zbI (W:=wx) (yq kInt d5 g9.out) (by omega) (zof _ _) (.inl (by have:=h7;omega)) ((((((((js _ _).put _ _).put _ _).put _ _).put _ _).put _ _).put _ _).put _ _)) (Kd.own_nil0 d5) (by rw[e6.2];exact d7) ?_
    ·simp only[World.frozen?_setCell];exact(A.frozen (p:=⟨B.heap.size,i,none⟩) (by have:=h7;show _<wx.heap.size;omega)).trans ((l2.frozen (p:=⟨B.heap.size,i,none⟩) (by show _<(B.alloc _).heap.size;simp)).trans (zoB _ _ _ _ rfl))
    ·exact zoV (zoV (zoV (zoV (zoV (zoV (zoV ((by rw[<-e8];exact l.out:Below (w.heap.size+2) B wy)) (by show w.heap.size+2<=B.heap.size;omega) _) (by show w.heap.size+2<=B.heap.size;omega) _) (by show w.heap.size+2<=B.heap.size;omega) _) (by show w.heap.size+2<=B.heap.size;omega) _) (by show w.heap.size+2<=B.heap.size;omega) _) (by show w.heap.size+2<=B.heap.size;omega) _) (by show w.heap.size+2<=B.heap.size;omega) _
   go_wp2_with fail
   go_meet
   exact⟨_,am,ao,cm,co,rfl,g3⟩
 case rest=>
  obtain⟨po,am,ao,cm,co,rfl,OA⟩:=hcut;have j5:=hid (zfU d am cm ao co);clear k5 l1 l b2 g7 g8 g9 i4 k2 m0 EW z0 z1 z2 z3 z4 z5 z6;generalize X0 d am cm ao co=X at*;generalize FPo w po=FF at*;have HL:=hid hl;have H0:=hid h0;have HF:=hid hf;clear hl h0 hf;have k6:=HF.out.hs.1;have j2:=HF.out.ss.1;have k1:=HF.out.al.1;have h8:=HF.out.ts.1;have l3:=HF.out.ns.1;go_wp2;go_loopw [4] (fun q wr=>∃(k:Nat) (F:Nat->Prop) (X:PlanD),k<=d.heads.n/\q=.int .i64 k/\Hid (OutAt w B po F X wr)/\Hid (zb6 d X k 0 0 0 0)) (fun q _=>d.heads.n-(intOf q).toNat)
  case atStart=>exact⟨0,_,_,zon _,rfl,OA,j5⟩
  case round=>
   obtain⟨k,F1,Y,hk,rfl,a6,b4⟩:=hrel;clear OA j5;have z0:=zaf a6.out.bel E0.out ZC.out.1;have BW:Hid (Below w.heap.size w wr):=HB.out.trans (a6.out.bel.mono (by omega))
   obtain⟨a0,ea0⟩:∃a,d.heads.a=a:=⟨_,rfl⟩;rw[ea0]at z0;have b9:=hid ea0;clear ea0;by_cases c9:k<d.heads.n
   ·have c8:(k:Int)<(d.heads.n:Int):=by omega
    obtain⟨g,off,x,ea,hx,M⟩:=zu (HL.out.hs.step HeadD.keeps BW.out) c9;obtain rfl:a0=some ⟨g,off,none⟩:=by rw[<-b9.out];exact ea
    have c0:=Eq.mp (by rw[Nat.mul_one]) M.1.1
    have a2:=hid (HF.out.hs.2 x (zol hx));have d8:Hid (∀w',Below wr.heap.size wr w'->Calls Tryz.prog 16 #[.slice x.w.a x.w.n x.w.c] w' (CopyDone kInt 3 x.ws x.w.n w')):=fun w' h=>kI x.w x.ws w' (M.2.step h) M.1.2 a2.out
    have i1:=hid M.2.2.1;have d6:=hid hx;have y0:=a6.out.c0;have yf:=a6.out.fz 0;have Q:=a6.out.pl;have a1:Hid (Y.heads.n<=100000):=by show Y.heads.n<=100000;rw[<-zbj kHead a6.out.own0,j8 b4.out.hs (by rw[HL.out.hs.1];exact hk)];have:=HF.out.hs.1;omega
    clear ea hx M;go_wp2_with fail
    go_region_law (first
     |(go_simp;go_at_call 16;refine(d8.out _ ((zof _ _).drew)).mono ?_;rintro e R ⟨a5,c5,rfl,b7,y⟩;have y5:=za (w:=wr.drew) y0 y;have e9:=(y.frozen (p:=⟨po,0,none⟩) Q).trans yf;have i5:po<R.heap.size:=zom Q y.size)
     |(refine znG Tryz.underlying22 Tryz.infoHeader rfl (by decide) (by decide) rfl _ _ rfl (po+1) Y.heads.n Y.heads.c 1 Y.heads.a (Y.hs.flatMap kHead.cells) [.slice a5 x.w.n c5] ⟨R.heap.size,0,none⟩ (by simp[Act.eval]) (by simp[Act.eval]) ((ya (ya a6.out.own0 ((zof wr.heap.size wr).drew)) y).alloc _) rfl zbH (by intro u hu;simp only[zoD,zoA,or_false]at hu;subst hu;rfl) a1.out (zcL i5) ?_;intro g6 V w6 O J P;obtain⟨y6,f9,b⟩:=j9 a6.out.own0 J (zcL i5) (za y5 (ze (zof _ _))) ((World.frozen?_alloc_past _ _ _ i5).trans e9)))
    all_goals
     have RN:Hid (OutAt w B po _ _ _):=OutAt.push0 (W:=wr.drew) (x':=⟨⟨a5,x.w.n,c5⟩,x.ws⟩) a6.out (zh (zof wr.heap.size wr).drew (ze y)) (zos _) (zfV b7 i1.out) O J P;have LN:Hid (zb6 d {Y with heads:=⟨some ⟨g6,0,none⟩,Y.heads.n+1,V⟩,hs:=Y.hs++[⟨⟨a5,x.w.n,c5⟩,x.ws⟩]} (k+1) 0 0 0 0):=⟨jb b4.out.hs d6.out rfl,b4.out.ss,b4.out.al,b4.out.ts,b4.out.ns,b4.out.ms,b4.out.os⟩;clear b7 y O J P a6 b4 y0 yf y5 e9 c0 d8;go_wp2;go_roundw
     case rel=>exact⟨k+1,_,_,by omega,by go_num,RN,LN⟩
     case measure=>simp[intOf];omega
   ·have c8:¬(k:Int)<(d.heads.n:Int):=by omega
    go_wp2;obtain rfl:k=d.heads.n:=by omega
    go_loopw [5,6,7] (fun q _ _ wr=>∃(k:Nat) (F:Nat->Prop) (X:PlanD),k<=d.states.n/\q=.int .i64 k/\Hid (OutAt w B po F X wr)/\Hid (zb6 d X d.heads.n k 0 0 0)) (fun q _ _ _=>d.states.n-(intOf q).toNat)
    case atStart=>exact⟨0,_,_,zon _,rfl,a6,b4⟩
    case round=>
     obtain⟨k,F2,Y,hk,rfl,a4,b8⟩:=hrel;clear a6 b4;have z0:=zaf a4.out.bel E0.out ZC.out.2.2.1;have BW:Hid (Below w.heap.size w wr):=HB.out.trans (a4.out.bel.mono (by omega))
     obtain⟨a0,ea0⟩:∃a,d.states.a=a:=⟨_,rfl⟩;rw[ea0]at z0;have b9:=hid ea0;clear ea0;by_cases c9:k<d.states.n
     ·have c8:(k:Int)<(d.states.n:Int):=by omega
      obtain⟨g,off,x,ea,hx,M⟩:=zu (HL.out.ss.step StateD.keeps BW.out) c9;obtain rfl:a0=some ⟨g,off,none⟩:=by rw[<-b9.out];exact ea
      have a2:=hid (HF.out.ss.2 x (zol hx));have U:=hid (kState.out M);have c0:wr.cell? ⟨g,off+k*5,none⟩=some (.int .i64 x.head):=kState.cell M 0 _ rfl;have c1:wr.cell? ⟨g,off+k*5+1,none⟩=some (.int .i64 x.r.h):=kState.cell M 1 _ rfl;have c2:wr.cell? ⟨g,off+k*5+2,none⟩=some (.int .i64 x.r.f):=kState.cell M 2 _ rfl;have c3:wr.cell? ⟨g,off+k*5+3,none⟩=some (.slice x.cases.a x.cases.n x.cases.c):=kState.cell M 3 _ rfl;have c4:wr.cell? ⟨g,off+k*5+4,none⟩=some (.int .i64 x.els):=kState.cell M 4 _ rfl;have d6:=hid hx;obtain⟨H,hW5⟩:∃H,H=wr.alloc (.cells #[.int .i64 x.head,.int .i64 x.r.h,.int .i64 x.r.f,.slice x.cases.a x.cases.n x.cases.c,.int .i64 x.els] 51):=⟨_,rfl⟩;obtain⟨p6,b⟩:∃p,p=wr.heap.size:=⟨_,rfl⟩;have o:H.heap.size=wr.heap.size+1:=by rw[hW5];simp
      have B5:Hid (Below wr.heap.size wr H):=by rw[hW5];exact ze (zof _ _)
      have D:∀i v,(#[.int .i64 x.head,.int .i64 x.r.h,.int .i64 x.r.f,.slice x.cases.a x.cases.n x.cases.c,.int .i64 x.els]:Array Value)[i]?=some v->H.cell? ⟨p6,i,none⟩=some v:=fun i v hv=>by rw[hW5,b];exact(zod _ _ _ _ rfl).trans hv
      have I:∀i,H.frozen? ⟨p6,i,none⟩=false:=fun i=>by rw[hW5,b];exact zoB _ _ _ _ rfl
      have y0:=a4.out.c2;have yf:=a4.out.fz 2;have Q:=a4.out.pl;have i8:¬(p6=po):=by rw[b];omega
      have a1:Hid (Y.states.n<=100000):=by show Y.states.n<=100000;rw[<-zbj kState a4.out.own2,j8 b8.out.ss (by rw[HL.out.ss.1];exact hk)];have:=HF.out.ss.1;omega
      obtain⟨a5,c5,R,i3,b7,y⟩:=zau kCase 49 Tryz.underlying49 Tryz.infoCase rfl (by decide) (s:=x.cases) (U.out.2.step CaseD.keeps (B5.out)) U.out.1.2.2.2.1 a2.out
      have K:∀i v,H.cell? ⟨p6,i,none⟩=some v->R.cell? ⟨p6,i,none⟩=some v:=fun i v hv=>za hv y
      have v0:=K 0 _ (D 0 _ rfl);have f0:R.frozen? ⟨p6,0,none⟩=false:=(y.frozen (p:=⟨p6,0,none⟩) (by rw[o,b];show wr.heap.size<_;omega)).trans (I 0)
      have v1:=K 1 _ (D 1 _ rfl);have f1:R.frozen? ⟨p6,1,none⟩=false:=(y.frozen (p:=⟨p6,1,none⟩) (by rw[o,b];show wr.heap.size<_;omega)).trans (I 1)
      have v2:=K 2 _ (D 2 _ rfl);have f2:R.frozen? ⟨p6,2,none⟩=false:=(y.frozen (p:=⟨p6,2,none⟩) (by rw[o,b];show wr.heap.size<_;omega)).trans (I 2)
      have v3:=K 3 _ (D 3 _ rfl);have f3:R.frozen? ⟨p6,3,none⟩=false:=(y.frozen (p:=⟨p6,3,none⟩) (by rw[o,b];show wr.heap.size<_;omega)).trans (I 3)
      have v4:=K 4 _ (D 4 _ rfl);have f4:R.frozen? ⟨p6,4,none⟩=false:=(y.frozen (p:=⟨p6,4,none⟩) (by rw[o,b];show wr.heap.size<_;omega)).trans (I 4)
      have f7:p6<R.heap.size:=by have:=y.size;rw[o]at this;rw[b];omega
      have h9:po<R.heap.size:=by have:=y.size;rw[o]at this;omega
      have y5:R.cell? ⟨po,2,none⟩=some (.slice Y.states.a Y.states.n Y.states.c):=za (za y0 B5.out) y;have e9:R.frozen? ⟨po,2,none⟩=false:=((zh B5.out y).frozen (p:=⟨po,2,none⟩) Q).trans yf;have BB:Hid (Below wr.heap.size wr ((R.setCell ⟨p6,3,none⟩ (.slice a5 x.cases.n c5)).alloc (.cells #[.int .i64 x.head,.int .i64 x.r.h,.int .i64 x.r.f,.slice a5 x.cases.n c5,.int .i64 x.els] 51))):=ze ((zh B5.out y).setCell (by show wr.heap.size<=p6;rw[b];exact zos _) _)
      obtain⟨g6,V,w6,L,O,J,P⟩:=xL (w:=(R.setCell ⟨p6,3,none⟩ (.slice a5 x.cases.n c5)).alloc (.cells #[.int .i64 x.head,.int .i64 x.r.h,.int .i64 x.r.f,.slice a5 x.cases.n c5,.int .i64 x.els] 51)) (ad:=⟨R.heap.size,0,none⟩) (m:=1) (c:=1) (news:=[.int .i64 x.head,.int .i64 x.r.h,.int .i64 x.r.f,.slice a5 x.cases.n c5,.int .i64 x.els]) 24 Tryz.underlying24 Tryz.infoState rfl (by decide) (ya a4.out.own2 BB.out) rfl (zd5 (zow _ _ _).symm) (by intro u hu;simp only[zoD,zoA,or_false]at hu;rcases hu with rfl|rfl|rfl|rfl|rfl<;>rfl) (by decide) (by have:=a1.out;unfold maxLen;omega) (by have:=a1.out;omega) (by have:=BB.out.size;omega)
      obtain⟨y6,f9,e3⟩:=j9 a4.out.own2 J (zom Q BB.out.size) (za y0 BB.out) ((BB.out.frozen (p:=⟨po,2,none⟩) Q).trans yf);have RN:Hid (OutAt w B po _ _ _):=OutAt.push2 (W:=H) (x':=⟨x.head,x.r,⟨a5,x.cases.n,c5⟩,x.cs,x.els⟩) a4.out BB.out (by rw[o];omega) (zeO b7 (kState.step U.out B5.out) (zbK (by rw[o,b];omega))) O J P
      have LN:Hid (zb6 d {Y with states:=⟨some ⟨g6,0,none⟩,Y.states.n+1,V⟩,ss:=Y.ss++[⟨x.head,x.r,⟨a5,x.cases.n,c5⟩,x.cs,x.els⟩]} d.heads.n (k+1) 0 0 0):=⟨b8.out.hs,jb b8.out.ss d6.out rfl,b8.out.al,b8.out.ts,b8.out.ns,b8.out.ms,b8.out.os⟩;have g5:=hid hW5;have h5:=hid b;have n2:=D 3 _ rfl;clear ea hx M D I K b7 y O J P hW5 b o a4 b8 BW BB B5;go_upto_region 11 with fail
      rw[<-g5.out,<-h5.out];clear g5 h5;go_upto_region 12 with(at_builtin;refine yg rfl _ _ rfl rfl rfl i3 ?_)
      go_wp2_with (at_builtin;refine yg rfl _ _ rfl rfl rfl L ?_)
      go_roundw
      case rel=>exact⟨k+1,_,_,by omega,by go_num,RN,LN⟩
      case measure=>simp[intOf];omega
     ·have c8:¬(k:Int)<(d.states.n:Int):=by omega
      go_wp2;obtain rfl:k=d.states.n:=by omega
      go_loopw [8,9,10,11] (fun q _ _ _ wr=>∃(k:Nat) (F:Nat->Prop) (X:PlanD),k<=d.acts.n/\q=.int .i64 k/\Hid (OutAt w B po F X wr)/\Hid (zb6 d X d.heads.n d.states.n k 0 0)) (fun q _ _ _ _=>d.acts.n-(intOf q).toNat)
      case atStart=>exact⟨0,_,_,zon _,rfl,a4,b8⟩
      case round=>
       obtain⟨w0,rfl⟩:∃w0,w0=wr:=⟨_,rfl⟩;obtain⟨k,F3,Y,hk,rfl,Z,a9⟩:=hrel;clear a4 b8;have z0:=zaf Z.out.bel E0.out ZC.out.2.2.2.1;have BW:Hid (Below w.heap.size w w0):=HB.out.trans (Z.out.bel.mono (by omega))
       obtain⟨a0,ea0⟩:∃a,d.acts.a=a:=⟨_,rfl⟩;rw[ea0]at z0;have b9:=hid ea0;clear ea0;by_cases c9:k<d.acts.n
       ·have c8:(k:Int)<(d.acts.n:Int):=by omega
        obtain⟨g,off,x,ea,hx,M⟩:=zu (HL.out.al.step ActD.keeps BW.out) c9;obtain rfl:a0=some ⟨g,off,none⟩:=by rw[<-b9.out];exact ea
        have a2:=hid (HF.out.al.2 x (zol hx));have n3:=a2.out.2.1;have c0:=M.1.1;have c1:=M.2.1.1;obtain⟨xa,exa⟩:∃a,x.ops.a=a:=⟨_,rfl⟩;rw[exa]at c1;have m4:=hid exa;have f8:=hid M.2.2.2;have i1:=hid M.2.2.1.2.1;have d6:=hid hx;have d8:=hid (kI x.w x.ws w0 M.2.2.1 M.1.2 a2.out.1);have a1:Hid (Y.acts.n<=100000):=by show Y.acts.n<=100000;rw[<-zbj kAct Z.out.own3,j8 a9.out.al (by rw[HL.out.al.1];exact hk)];have:=HF.out.al.1;omega
        have l8:=hid z0;have j6:=hid c1;clear ea hx M exa;go_wp2_with fail
        refine d8.out.mono ?_;rintro e R ⟨a5,c5,rfl,b7,y⟩;have AS:=hid (ActAt.start b7 i1.out y);obtain⟨W6,hW6⟩:∃W6,W6=R.alloc (.cells #[.slice a5 x.w.n c5,.slice none 0 0] 56):=⟨_,rfl⟩;obtain⟨pa,g4⟩:∃pa,pa=R.heap.size:=⟨_,rfl⟩;rw[<-hW6,<-g4]at AS;have z6:=za z0 AS.out.bel;have c6:=za c1 AS.out.bel;have k0:=hid hW6;have k3:=hid g4;clear b7 y hW6 g4 d8 c0 z0 c1;go_wp2;rw[<-k0.out,<-k3.out];clear k0 k3;go_loopw [10,11] (fun q _ wi=>∃(j:Nat) (G:Nat->Prop) (oa:Option Addr) (oc:Nat) (S:List OpD),j<=x.ops.n/\q=.int .i64 j/\Hid (ActAt w0 pa x a5 c5 G oa oc S wi)/\Hid (S.map OpD.p=(x.os.take j).map OpD.p)) (fun q _ _=>x.ops.n-(intOf q).toNat)
        case atStart=>exact⟨0,_,_,_,[],zon _,rfl,AS,rfl⟩
        case round=>
         obtain⟨j,G,oa,oc,S,hj,rfl,AA,LS⟩:=hrel;clear AS z6 c6;have z7:=za l8.out AA.out.bel;have n0:=za j6.out AA.out.bel;by_cases l9:j<x.ops.n
         ·have m1:(j:Int)<(x.ops.n:Int):=by omega
          obtain⟨g2,o2,t,et,ht,d9⟩:=zu (f8.out.step OpD.keeps AA.out.bel) l9;obtain rfl:xa=some ⟨g2,o2,none⟩:=by rw[<-m4.out];exact et
          have l6:=hid (a2.out.2.2 t (zol ht));have U:=hid (kOp.out d9);have l5:=hid ht;have d0:wr.cell? ⟨g2,o2+j*5,none⟩=some (.int .i64 t.kind):=kOp.cell d9 0 _ rfl;have d1:wr.cell? ⟨g2,o2+j*5+1,none⟩=some (.int .i64 t.r.h):=kOp.cell d9 1 _ rfl;have d2:wr.cell? ⟨g2,o2+j*5+2,none⟩=some (.int .i64 t.r.f):=kOp.cell d9 2 _ rfl;have d3:wr.cell? ⟨g2,o2+j*5+3,none⟩=some (.int .i64 t.head):=kOp.cell d9 3 _ rfl;have d4:wr.cell? ⟨g2,o2+j*5+4,none⟩=some (.slice t.e.a t.e.n t.e.c):=kOp.cell d9 4 _ rfl;obtain⟨H,hW5⟩:∃H,H=wr.alloc (.cells #[.int .i64 t.kind,.int .i64 t.r.h,.int .i64 t.r.f,.int .i64 t.head,.slice t.e.a t.e.n t.e.c] 59):=⟨_,rfl⟩;obtain⟨p6,b⟩:∃p,p=wr.heap.size:=⟨_,rfl⟩;have o:H.heap.size=wr.heap.size+1:=by rw[hW5];simp
          have B5:Hid (Below wr.heap.size wr H):=by rw[hW5];exact ze (zof _ _)
          have D:∀i v,(#[.int .i64 t.kind,.int .i64 t.r.h,.int .i64 t.r.f,.int .i64 t.head,.slice t.e.a t.e.n t.e.c]:Array Value)[i]?=some v->H.cell? ⟨p6,i,none⟩=some v:=fun i v hv=>by rw[hW5,b];exact(zod _ _ _ _ rfl).trans hv
          have I:∀i,H.frozen? ⟨p6,i,none⟩=false:=fun i=>by rw[hW5,b];exact zoB _ _ _ _ rfl
          have y0:=AA.out.c1;have yf:=AA.out.fz 1;have Q:=AA.out.pl;have i8:¬(p6=pa):=by rw[b];omega
          have j7:Hid (S.length<=100000):=by show S.length<=100000;rw[j8 LS.out (by rw[f8.out.1];exact hj)];omega
          have g0:=hid (zb2 t.e t.es H (U.out.2.step PushD.keeps B5.out) U.out.1.2.2.2.2 l6.out);have a3:=hid hW5;have N:=hid b;go_wp2_with fail
          rw[<-a3.out,<-N.out];refine g0.out.mono ?_;rintro e w7 ⟨a7,c7,rfl,k8,T⟩;have K:∀i v,H.cell? ⟨p6,i,none⟩=some v->w7.cell? ⟨p6,i,none⟩=some v:=fun i v hv=>za hv T
          have v0:=K 0 _ (D 0 _ rfl);have f0:w7.frozen? ⟨p6,0,none⟩=false:=(T.frozen (p:=⟨p6,0,none⟩) (by rw[o,b];show wr.heap.size<_;omega)).trans (I 0)
          have v1:=K 1 _ (D 1 _ rfl);have f1:w7.frozen? ⟨p6,1,none⟩=false:=(T.frozen (p:=⟨p6,1,none⟩) (by rw[o,b];show wr.heap.size<_;omega)).trans (I 1)
          have v2:=K 2 _ (D 2 _ rfl);have f2:w7.frozen? ⟨p6,2,none⟩=false:=(T.frozen (p:=⟨p6,2,none⟩) (by rw[o,b];show wr.heap.size<_;omega)).trans (I 2)
          have v3:=K 3 _ (D 3 _ rfl);have f3:w7.frozen? ⟨p6,3,none⟩=false:=(T.frozen (p:=⟨p6,3,none⟩) (by rw[o,b];show wr.heap.size<_;omega)).trans (I 3)
          have v4:=K 4 _ (D 4 _ rfl);have f4:w7.frozen? ⟨p6,4,none⟩=false:=(T.frozen (p:=⟨p6,4,none⟩) (by rw[o,b];show wr.heap.size<_;omega)).trans (I 4)
          have f7:p6<w7.heap.size:=by have:=T.size;rw[o]at this;rw[b];omega
          have h9:pa<w7.heap.size:=by have:=T.size;rw[o]at this;omega
          have y5:w7.cell? ⟨pa,1,none⟩=some (.slice oa S.length oc):=za (za y0 B5.out) T;have e9:w7.frozen? ⟨pa,1,none⟩=false:=((zh B5.out T).frozen (p:=⟨pa,1,none⟩) Q).trans yf;have BB:Hid (Below wr.heap.size wr ((w7.setCell ⟨p6,4,none⟩ (.slice a7 t.e.n c7)).alloc (.cells #[.int .i64 t.kind,.int .i64 t.r.h,.int .i64 t.r.f,.int .i64 t.head,.slice a7 t.e.n c7] 59))):=ze ((zh B5.out T).setCell (by show wr.heap.size<=p6;rw[b];exact zos _) _)
          obtain⟨g6,V,w6,L,O,J,P⟩:=xL (w:=(w7.setCell ⟨p6,4,none⟩ (.slice a7 t.e.n c7)).alloc (.cells #[.int .i64 t.kind,.int .i64 t.r.h,.int .i64 t.r.f,.int .i64 t.head,.slice a7 t.e.n c7] 59)) (ad:=⟨w7.heap.size,0,none⟩) (m:=1) (c:=1) (news:=[.int .i64 t.kind,.int .i64 t.r.h,.int .i64 t.r.f,.int .i64 t.head,.slice a7 t.e.n c7]) 54 Tryz.underlying54 Tryz.infoOp rfl (by decide) (ya AA.out.own BB.out) rfl (zd5 (zow _ _ _).symm) (by intro u hu;simp only[zoD,zoA,or_false]at hu;rcases hu with rfl|rfl|rfl|rfl|rfl<;>rfl) (by decide) (by have:=j7.out;unfold maxLen;omega) (by have:=j7.out;omega) (by have:=BB.out.size;omega)
          obtain⟨y6,f9,e3⟩:=j9 AA.out.own J (zom Q BB.out.size) (za y0 BB.out) ((BB.out.frozen (p:=⟨pa,1,none⟩) Q).trans yf);have RN:Hid (ActAt w0 pa x a5 c5 _ _ _ _ _):=ActAt.push (W:=H) (x':=⟨t.kind,t.r,t.head,⟨a7,t.e.n,c7⟩,t.es⟩) AA.out BB.out (by rw[o];omega) (zj6 k8 (kOp.step U.out B5.out) (zbK (by rw[o,b];omega))) O J P
          have LN:Hid ((S++[(⟨t.kind,t.r,t.head,⟨a7,t.e.n,c7⟩,t.es⟩:OpD)]).map OpD.p=(x.os.take (j+1)).map OpD.p):=jb LS.out l5.out rfl;clear et ht d9 D I K k8 T O J P hW5 b o AA LS BB B5 a3 N g0 d0 d1 d2 d3 d4;go_wp2_with (at_builtin;refine yg rfl _ _ rfl rfl rfl L ?_)
          go_roundw
          case rel=>exact⟨j+1,_,_,_,_,by omega,by go_num,RN,LN⟩
          case measure=>simp[intOf];omega
         ·have m1:¬(j:Int)<(x.ops.n:Int):=by omega
          have y0:=za Z.out.c3 AA.out.bel;have yf:=(AA.out.bel.frozen (p:=⟨po,3,none⟩) Z.out.pl).trans (Z.out.fz 3);have Q:po<wr.heap.size:=zom Z.out.pl AA.out.bel.size;have e0:=AA.out.c0;have e1:=AA.out.c1;have g4:=AA.out.pl;have BB:Hid (Below w0.heap.size w0 (wr.alloc (.cells #[.slice a5 x.w.n c5,.slice oa S.length oc] 56))):=ze AA.out.bel;obtain⟨g6,V,w6,L,O,J,P⟩:=xL (w:=wr.alloc (.cells #[.slice a5 x.w.n c5,.slice oa S.length oc] 56)) (ad:=⟨wr.heap.size,0,none⟩) (m:=1) (c:=1) (news:=[.slice a5 x.w.n c5,.slice oa S.length oc]) 25 Tryz.underlying25 Tryz.infoAction rfl (by decide) (ya Z.out.own3 BB.out) rfl zbH (by intro u hu;simp only[zoD,zoA,or_false]at hu;rcases hu with rfl|rfl<;>rfl) (by decide) (by have:=a1.out;unfold maxLen;omega) (by have:=a1.out;omega) (by have:=BB.out.size;have:=Z.out.pl;omega)
          obtain⟨y6,f9,e3⟩:=j9 Z.out.own3 J (zcL Q) (za y0 (ze (zof _ _))) ((World.frozen?_alloc_past _ _ _ Q).trans yf);have RN:Hid (OutAt w B po _ _ _):=OutAt.push3 (W:=w0) (x':=⟨⟨a5,x.w.n,c5⟩,x.ws,⟨oa,S.length,oc⟩,S⟩) Z.out BB.out (zos _) AA.out.done O J P;have LN:Hid (zb6 d {Y with acts:=⟨some ⟨g6,0,none⟩,Y.acts.n+1,V⟩,al:=Y.al++[⟨⟨a5,x.w.n,c5⟩,x.ws,⟨oa,S.length,oc⟩,S⟩]} d.heads.n d.states.n (k+1) 0 0):=⟨a9.out.hs,a9.out.ss,jb a9.out.al d6.out (by
           have h1:=LS.out;rw[List.take_of_length_le (by rw[f8.out.1];omega)]at h1
           show PAct.mk x.ws (S.map OpD.p)=PAct.mk x.ws (x.os.map OpD.p);rw[h1]),a9.out.ts,a9.out.ns,a9.out.ms,a9.out.os⟩
          clear O J P AA LS BB Z a9;go_wp2_with (at_builtin;refine yg rfl _ _ rfl rfl rfl L ?_)
          go_roundw
          case rel=>exact⟨k+1,_,_,by omega,by go_num,RN,LN⟩
          case measure=>simp[intOf];omega
       ·have c8:¬(k:Int)<(d.acts.n:Int):=by omega
        go_wp2;obtain rfl:k=d.acts.n:=by omega
        go_loopw [12,13,14,15] (fun q _ _ _ wr=>∃(k:Nat) (F:Nat->Prop) (X:PlanD),k<=d.tabs.n/\q=.int .i64 k/\Hid (OutAt w B po F X wr)/\Hid (zb6 d X d.heads.n d.states.n d.acts.n k 0)) (fun q _ _ _ _=>d.tabs.n-(intOf q).toNat)
        case atStart=>exact⟨0,_,_,zon _,rfl,Z,a9⟩
        case round=>
         obtain⟨k,F4,Y,hk,rfl,a8,b6⟩:=hrel;clear Z a9;have z0:=zaf a8.out.bel E0.out ZC.out.2.2.2.2.1;have BW:Hid (Below w.heap.size w wr):=HB.out.trans (a8.out.bel.mono (by omega))
         obtain⟨a0,ea0⟩:∃a,d.tabs.a=a:=⟨_,rfl⟩;rw[ea0]at z0;have b9:=hid ea0;clear ea0;by_cases c9:k<d.tabs.n
         ·have c8:(k:Int)<(d.tabs.n:Int):=by omega
          obtain⟨g,off,x,ea,hx,M⟩:=zu (HL.out.ts.step TabD.keeps BW.out) c9;obtain rfl:a0=some ⟨g,off,none⟩:=by rw[<-b9.out];exact ea
          have a2:=hid (HF.out.ts.2 x (zol hx));have U:=hid (kTab.out M);have c0:wr.cell? ⟨g,off+k*6,none⟩=some (.int .i64 x.kind):=kTab.cell M 0 _ rfl;have c1:wr.cell? ⟨g,off+k*6+1,none⟩=some (.slice x.keys.a x.keys.n x.keys.c):=kTab.cell M 1 _ rfl;have c2:wr.cell? ⟨g,off+k*6+2,none⟩=some (.slice x.acts.a x.acts.n x.acts.c):=kTab.cell M 2 _ rfl;have c3:wr.cell? ⟨g,off+k*6+3,none⟩=some (.int .i64 x.cap):=kTab.cell M 3 _ rfl;have c4:wr.cell? ⟨g,off+k*6+4,none⟩=some (.int .i64 x.dflt):=kTab.cell M 4 _ rfl;have c5:wr.cell? ⟨g,off+k*6+5,none⟩=some (.slice x.args.a x.args.n x.args.c):=kTab.cell M 5 _ rfl;have d6:=hid hx;obtain⟨H,hW5⟩:∃H,H=wr.alloc (.cells #[.int .i64 x.kind,.slice x.keys.a x.keys.n x.keys.c,.slice x.acts.a x.acts.n x.acts.c,.int .i64 x.cap,.int .i64 x.dflt,.slice x.args.a x.args.n x.args.c] 63):=⟨_,rfl⟩;obtain⟨p6,b⟩:∃p,p=wr.heap.size:=⟨_,rfl⟩;have o:H.heap.size=wr.heap.size+1:=by rw[hW5];simp
          have B5:Hid (Below wr.heap.size wr H):=by rw[hW5];exact ze (zof _ _)
          have D:∀i v,(#[.int .i64 x.kind,.slice x.keys.a x.keys.n x.keys.c,.slice x.acts.a x.acts.n x.acts.c,.int .i64 x.cap,.int .i64 x.dflt,.slice x.args.a x.args.n x.args.c]:Array Value)[i]?=some v->H.cell? ⟨p6,i,none⟩=some v:=fun i v hv=>by rw[hW5,b];exact(zod _ _ _ _ rfl).trans hv
          have I:∀i,H.frozen? ⟨p6,i,none⟩=false:=fun i=>by rw[hW5,b];exact zoB _ _ _ _ rfl
          have e7:Hid (po<wr.heap.size):=a8.out.pl;have i8:¬(p6=po):=by rw[b];have:=e7.out;omega
          have a1:Hid (Y.tabs.n<=100000):=by show Y.tabs.n<=100000;rw[<-zbj kTab a8.out.own4,j8 b6.out.ts (by rw[HL.out.ts.1];exact hk)];have:=HF.out.ts.1;omega
          have h4:=hid (kTab.step U.out B5.out);have d8:Hid (∀w',Below H.heap.size H w'->Calls Tryz.prog 16 #[.slice x.acts.a x.acts.n x.acts.c] w' (CopyDone kInt 3 x.al x.acts.n w')):=fun w' h=>kI x.acts x.al w' (h4.out.2.2.1.step h) U.out.1.2.2.1 a2.out.2.1
          have g1:Hid (∀w',Below H.heap.size H w'->(w'.cell? ⟨p6,0,none⟩=some (.int .i64 x.kind)/\w'.cell? ⟨p6,1,none⟩=some (.slice x.keys.a x.keys.n x.keys.c)/\w'.cell? ⟨p6,2,none⟩=some (.slice x.acts.a x.acts.n x.acts.c)/\w'.cell? ⟨p6,3,none⟩=some (.int .i64 x.cap)/\w'.cell? ⟨p6,4,none⟩=some (.int .i64 x.dflt)/\w'.cell? ⟨p6,5,none⟩=some (.slice x.args.a x.args.n x.args.c))/\(w'.frozen? ⟨p6,1,none⟩=false/\w'.frozen? ⟨p6,2,none⟩=false/\w'.frozen? ⟨p6,5,none⟩=false)/\p6<w'.heap.size/\po<w'.heap.size):=fun w' h=>by
           have hb:p6<H.heap.size:=by rw[o,b];omega
           have e4:∀i v,(#[.int .i64 x.kind,.slice x.keys.a x.keys.n x.keys.c,.slice x.acts.a x.acts.n x.acts.c,.int .i64 x.cap,.int .i64 x.dflt,.slice x.args.a x.args.n x.args.c]:Array Value)[i]?=some v->w'.cell? ⟨p6,i,none⟩=some v:=fun i v hv=>za (D i v hv) h
           have i0:∀i,w'.frozen? ⟨p6,i,none⟩=false:=fun i=>(h.frozen (p:=⟨p6,i,none⟩) hb).trans (I i)
           have hs:=h.size;have:=e7.out;exact⟨⟨e4 0 _ rfl,e4 1 _ rfl,e4 2 _ rfl,e4 3 _ rfl,e4 4 _ rfl,e4 5 _ rfl⟩,⟨i0 1,i0 2,i0 5⟩,by omega,by omega⟩
          obtain⟨⟨q0,q1,q2,q3,q4,q5⟩,_,l4,l7⟩:=g1.out H (zof _ _);have a3:=hid hW5;have N:=hid b;have i9:=hid o;clear ea hx M D I hW5 b o;go_upto_region 30 with fail
          rw[<-a3.out,<-N.out];clear c0 c1 c2 c3 c4 c5 z0 q0 q3 q4 l4 l7 BW b9 k6 j2 k1 h8 l3;go_region_law (first
           |(refine zmv kRef Tryz.underlying60 Tryz.infoRef rfl (by decide) rfl _ _ rfl x.keys x.ks (by simp[Act.eval]) (by simp[Act.eval]) (h4.out.2.1.step RefD.keeps (zof H.heap.size H).drew) U.out.1.2.1 a2.out.1 ?_;intro ak ck w7 j4 T;have B7:=hid (zh (zof H.heap.size H).drew T);have C:=g1.out _ B7.out;clear q1 q2 q5;have q2:=C.1.2.2.1;have q5:=C.1.2.2.2.2.2;clear C)
           |(go_simp;go_at_call 16;refine(d8.out _ B7.out).mono ?_;rintro e w8 ⟨aa,ca,rfl,k7,i2⟩;have B8:=hid (zh B7.out i2);have C:=g1.out _ B8.out;clear q2 q5;have q5:=C.1.2.2.2.2.2;clear C)
           |(refine zmv kNum Tryz.underlying61 Tryz.infoNum rfl (by decide) rfl _ _ rfl x.args x.zs (by simp[Act.eval,Act.put]) (by simp[Act.eval,Act.put]) (zj2 (h4.out.2.2.2.step B8.out)) U.out.1.2.2.2.2.2 a2.out.2.2 ?_;intro az cz w9 j1 i7;have B9:=hid (zh B8.out i7);have C:=g1.out _ B9.out;clear q5;have q0:=C.1.1;have q1:=C.1.2.1;have q2:=C.1.2.2.1;have q3:=C.1.2.2.2.1;have q4:=C.1.2.2.2.2.1;have q5:=C.1.2.2.2.2.2;have r1:=C.2.1.1;have r2:=C.2.1.2.1;have r5:=C.2.1.2.2;have f7:=C.2.2.1;have m8:=C.2.2.2;clear C))
          all_goals
           have h8:=HF.out.ts.1;have y0:=a8.out.c4;have yf:=a8.out.fz 4;have BB:Hid (Below wr.heap.size wr ((((w9.setCell ⟨p6,1,none⟩ (.slice ak x.keys.n ck)).setCell ⟨p6,2,none⟩ (.slice aa x.acts.n ca)).setCell ⟨p6,5,none⟩ (.slice az x.args.n cz)).alloc (.cells #[.int .i64 x.kind,.slice ak x.keys.n ck,.slice aa x.acts.n ca,.int .i64 x.cap,.int .i64 x.dflt,.slice az x.args.n cz] 63))):=ze ((((zh B5.out B9.out).setCell (by show wr.heap.size<=p6;rw[N.out];exact zos _) _).setCell (by show wr.heap.size<=p6;rw[N.out];exact zos _) _).setCell (by show wr.heap.size<=p6;rw[N.out];exact zos _) _)
           have y9:w9.cell? ⟨po,4,none⟩=some (.slice Y.tabs.a Y.tabs.n Y.tabs.c):=za y0 (zh B5.out B9.out);have m9:w9.frozen? ⟨po,4,none⟩=false:=((zh B5.out B9.out).frozen (p:=⟨po,4,none⟩) e7.out).trans yf;obtain⟨g6,V,w6,L,O,J,P⟩:=xL (w:=(((w9.setCell ⟨p6,1,none⟩ (.slice ak x.keys.n ck)).setCell ⟨p6,2,none⟩ (.slice aa x.acts.n ca)).setCell ⟨p6,5,none⟩ (.slice az x.args.n cz)).alloc (.cells #[.int .i64 x.kind,.slice ak x.keys.n ck,.slice aa x.acts.n ca,.int .i64 x.cap,.int .i64 x.dflt,.slice az x.args.n cz] 63)) (ad:=⟨w9.heap.size,0,none⟩) (m:=1) (c:=1) (news:=[.int .i64 x.kind,.slice ak x.keys.n ck,.slice aa x.acts.n ca,.int .i64 x.cap,.int .i64 x.dflt,.slice az x.args.n cz]) 26 Tryz.underlying26 Tryz.infoTable rfl (by decide) (ya a8.out.own4 BB.out) rfl (zd5 (by simp only[zow])) (by intro u hu;simp only[zoD,zoA,or_false]at hu;rcases hu with rfl|rfl|rfl|rfl|rfl|rfl<;>rfl) (by decide) (by have:=a1.out;unfold maxLen;omega) (by have:=a1.out;omega) (by have:=BB.out.size;have:=e7.out;omega)
           obtain⟨y6,f9,e3⟩:=j9 a8.out.own4 J (zom e7.out BB.out.size) (za y0 BB.out) ((BB.out.frozen (p:=⟨po,4,none⟩) e7.out).trans yf);have RN:Hid (OutAt w B po _ _ _):=OutAt.push4 (W:=H) (x':=⟨x.kind,⟨ak,x.keys.n,ck⟩,x.ks,⟨aa,x.acts.n,ca⟩,x.al,x.cap,x.dflt,⟨az,x.args.n,cz⟩,x.zs⟩) a8.out BB.out (by rw[i9.out];omega) (zh1 j4 (zh (zof H.heap.size H).drew T) k7 i2 j1 i7 h4.out (zfX (by rw[i9.out,N.out];omega))) O J P
           have LN:Hid (zb6 d {Y with tabs:=⟨some ⟨g6,0,none⟩,Y.tabs.n+1,V⟩,ts:=Y.ts++[⟨x.kind,⟨ak,x.keys.n,ck⟩,x.ks,⟨aa,x.acts.n,ca⟩,x.al,x.cap,x.dflt,⟨az,x.args.n,cz⟩,x.zs⟩]} d.heads.n d.states.n d.acts.n (k+1) 0):=⟨b6.out.hs,b6.out.ss,b6.out.al,jb b6.out.ts d6.out rfl,b6.out.ns,b6.out.ms,b6.out.os⟩;clear j4 T k7 i2 j1 i7 O J P a8 b6 BB B5 B7 B8 B9 a3 N d8 g1 y0 yf;go_wp2_with (at_builtin;refine yg rfl _ _ rfl rfl rfl L ?_)
           go_roundw
           case rel=>exact⟨k+1,_,_,by omega,by go_num,RN,LN⟩
           case measure=>simp[intOf];omega
         ·have c8:¬(k:Int)<(d.tabs.n:Int):=by omega
          go_wp2;obtain rfl:k=d.tabs.n:=by omega
          go_loopw [16,17] (fun q _ wr=>∃(k:Nat) (F:Nat->Prop) (X:PlanD),k<=d.nodes.n/\q=.int .i64 k/\Hid (OutAt w B po F X wr)/\Hid (zb6 d X d.heads.n d.states.n d.acts.n d.tabs.n k)) (fun q _ _=>d.nodes.n-(intOf q).toNat)
          case atStart=>exact⟨0,_,_,zon _,rfl,a8,b6⟩
          case round=>
           obtain⟨k,F5,Y,hk,rfl,E,b5⟩:=hrel;clear a8 b6;have z0:=zaf E.out.bel E0.out ZC.out.2.2.2.2.2.1;have BW:Hid (Below w.heap.size w wr):=HB.out.trans (E.out.bel.mono (by omega))
           obtain⟨a0,ea0⟩:∃a,d.nodes.a=a:=⟨_,rfl⟩;rw[ea0]at z0;have b9:=hid ea0;clear ea0;by_cases c9:k<d.nodes.n
           ·have c8:(k:Int)<(d.nodes.n:Int):=by omega
            obtain⟨g,off,x,ea,hx,M⟩:=zu (HL.out.ns.step NodeD.keeps BW.out) c9;obtain rfl:a0=some ⟨g,off,none⟩:=by rw[<-b9.out];exact ea
            have a2:=hid (HF.out.ns.2 x (zol hx));have U:=hid (kNode.out M);have c0:wr.cell? ⟨g,off+k*5,none⟩=some (.int .i64 x.kind):=kNode.cell M 0 _ rfl;have c1:wr.cell? ⟨g,off+k*5+1,none⟩=some (.int .i64 x.n):=kNode.cell M 1 _ rfl;have c2:wr.cell? ⟨g,off+k*5+2,none⟩=some (.slice x.e.a x.e.n x.e.c):=kNode.cell M 2 _ rfl;have c3:wr.cell? ⟨g,off+k*5+3,none⟩=some (.int .i64 x.yes):=kNode.cell M 3 _ rfl;have c4:wr.cell? ⟨g,off+k*5+4,none⟩=some (.int .i64 x.no):=kNode.cell M 4 _ rfl;have d6:=hid hx;obtain⟨H,hW5⟩:∃H,H=wr.alloc (.cells #[.int .i64 x.kind,.int .i64 x.n,.slice x.e.a x.e.n x.e.c,.int .i64 x.yes,.int .i64 x.no] 65):=⟨_,rfl⟩;obtain⟨p6,b⟩:∃p,p=wr.heap.size:=⟨_,rfl⟩;have o:H.heap.size=wr.heap.size+1:=by rw[hW5];simp
            have B5:Hid (Below wr.heap.size wr H):=by rw[hW5];exact ze (zof _ _)
            have D:∀i v,(#[.int .i64 x.kind,.int .i64 x.n,.slice x.e.a x.e.n x.e.c,.int .i64 x.yes,.int .i64 x.no]:Array Value)[i]?=some v->H.cell? ⟨p6,i,none⟩=some v:=fun i v hv=>by rw[hW5,b];exact(zod _ _ _ _ rfl).trans hv
            have I:∀i,H.frozen? ⟨p6,i,none⟩=false:=fun i=>by rw[hW5,b];exact zoB _ _ _ _ rfl
            have y0:=E.out.c5;have yf:=E.out.fz 5;have Q:=E.out.pl;have i8:¬(p6=po):=by rw[b];omega
            have a1:Hid (Y.nodes.n<=100000):=by show Y.nodes.n<=100000;rw[<-zbj kNode E.out.own5,j8 b5.out.ns (by rw[HL.out.ns.1];exact hk)];have:=HF.out.ns.1;omega
            have g0:=hid (zb2 x.e x.es H (U.out.2.step PushD.keeps B5.out) U.out.1.2.2.1 a2.out);have a3:=hid hW5;have N:=hid b;go_wp2_with fail
            rw[<-a3.out,<-N.out];refine g0.out.mono ?_;rintro e R ⟨a5,c5,rfl,b7,y⟩;have K:∀i v,H.cell? ⟨p6,i,none⟩=some v->R.cell? ⟨p6,i,none⟩=some v:=fun i v hv=>za hv y
            have v0:=K 0 _ (D 0 _ rfl);have f0:R.frozen? ⟨p6,0,none⟩=false:=(y.frozen (p:=⟨p6,0,none⟩) (by rw[o,b];show wr.heap.size<_;omega)).trans (I 0)
            have v1:=K 1 _ (D 1 _ rfl);have f1:R.frozen? ⟨p6,1,none⟩=false:=(y.frozen (p:=⟨p6,1,none⟩) (by rw[o,b];show wr.heap.size<_;omega)).trans (I 1)
            have v2:=K 2 _ (D 2 _ rfl);have f2:R.frozen? ⟨p6,2,none⟩=false:=(y.frozen (p:=⟨p6,2,none⟩) (by rw[o,b];show wr.heap.size<_;omega)).trans (I 2)
            have v3:=K 3 _ (D 3 _ rfl);have f3:R.frozen? ⟨p6,3,none⟩=false:=(y.frozen (p:=⟨p6,3,none⟩) (by rw[o,b];show wr.heap.size<_;omega)).trans (I 3)
            have v4:=K 4 _ (D 4 _ rfl);have f4:R.frozen? ⟨p6,4,none⟩=false:=(y.frozen (p:=⟨p6,4,none⟩) (by rw[o,b];show wr.heap.size<_;omega)).trans (I 4)
            have f7:p6<R.heap.size:=by have:=y.size;rw[o]at this;rw[b];omega
            have h9:po<R.heap.size:=by have:=y.size;rw[o]at this;omega
            have y5:R.cell? ⟨po,5,none⟩=some (.slice Y.nodes.a Y.nodes.n Y.nodes.c):=za (za y0 B5.out) y;have e9:R.frozen? ⟨po,5,none⟩=false:=((zh B5.out y).frozen (p:=⟨po,5,none⟩) Q).trans yf;have BB:Hid (Below wr.heap.size wr ((R.setCell ⟨p6,2,none⟩ (.slice a5 x.e.n c5)).alloc (.cells #[.int .i64 x.kind,.int .i64 x.n,.slice a5 x.e.n c5,.int .i64 x.yes,.int .i64 x.no] 65))):=ze ((zh B5.out y).setCell (by show wr.heap.size<=p6;rw[b];exact zos _) _)
            obtain⟨g6,V,w6,L,O,J,P⟩:=xL (w:=(R.setCell ⟨p6,2,none⟩ (.slice a5 x.e.n c5)).alloc (.cells #[.int .i64 x.kind,.int .i64 x.n,.slice a5 x.e.n c5,.int .i64 x.yes,.int .i64 x.no] 65)) (ad:=⟨R.heap.size,0,none⟩) (m:=1) (c:=1) (news:=[.int .i64 x.kind,.int .i64 x.n,.slice a5 x.e.n c5,.int .i64 x.yes,.int .i64 x.no]) 27 Tryz.underlying27 Tryz.infoNode rfl (by decide) (ya E.out.own5 BB.out) rfl (zd5 (zow _ _ _).symm) (by intro u hu;simp only[zoD,zoA,or_false]at hu;rcases hu with rfl|rfl|rfl|rfl|rfl<;>rfl) (by decide) (by have:=a1.out;unfold maxLen;omega) (by have:=a1.out;omega) (by have:=BB.out.size;omega)
            obtain⟨y6,f9,e3⟩:=j9 E.out.own5 J (zom Q BB.out.size) (za y0 BB.out) ((BB.out.frozen (p:=⟨po,5,none⟩) Q).trans yf);have RN:Hid (OutAt w B po _ _ _):=OutAt.push5 (W:=H) (x':=⟨x.kind,x.n,⟨a5,x.e.n,c5⟩,x.es,x.yes,x.no⟩) E.out BB.out (by rw[o];omega) (zfW b7 (kNode.step U.out B5.out) (zbK (by rw[o,b];omega))) O J P
            have LN:Hid (zb6 d {Y with nodes:=⟨some ⟨g6,0,none⟩,Y.nodes.n+1,V⟩,ns:=Y.ns++[⟨x.kind,x.n,⟨a5,x.e.n,c5⟩,x.es,x.yes,x.no⟩]} d.heads.n d.states.n d.acts.n d.tabs.n (k+1)):=⟨b5.out.hs,b5.out.ss,b5.out.al,b5.out.ts,jb b5.out.ns d6.out rfl,b5.out.ms,b5.out.os⟩;have g5:=hid hW5;have h5:=hid b;clear ea hx M D I K b7 y O J P hW5 b o E b5 BW BB B5 a3 N g5 h5 g0;go_wp2_with (at_builtin;refine yg rfl _ _ rfl rfl rfl L ?_)
            go_roundw
            case rel=>exact⟨k+1,_,_,by omega,by go_num,RN,LN⟩
            case measure=>simp[intOf];omega
           ·have c8:¬(k:Int)<(d.nodes.n:Int):=by omega
            obtain rfl:k=d.nodes.n:=by omega
            have o0:=E.out.c0;have o1:=E.out.c1;have o2:=E.out.c2;have o3:=E.out.c3;have o4:=E.out.c4;have o5:=E.out.c5;have o6:=E.out.c6;have h6:b1<w.heap.size+2:=by rw[E1.out];omega
            have kz:∀i v,B.cell? ⟨b1,i,none⟩=some v->wr.cell? ⟨b1,i,none⟩=some v:=fun i v hv=>(E.out.bel.cell (p:=⟨b1,i,none⟩) h6).trans hv
            have t0:=kz 0 _ e2.out.1;have t1:=kz 1 _ e2.out.2.1;have t2:=kz 2 _ e2.out.2.2.1;have t3:=kz 3 _ e2.out.2.2.2.1;have t4:=kz 4 _ e2.out.2.2.2.2.1;have t5:=kz 5 _ e2.out.2.2.2.2.2.1;have t6:=kz 6 _ e2.out.2.2.2.2.2.2;have kf:∀i,wr.frozen? ⟨b1,i,none⟩=false:=fun i=>(E.out.bel.frozen (p:=⟨b1,i,none⟩) h6).trans (m3.out i)
            have f0:=kf 0;have f1:=kf 1;have f2:=kf 2;have f3:=kf 3;have f4:=kf 4;have f5:=kf 5;have f6:=kf 6;have n5:b1<wr.heap.size:=by have h1:=E.out.pl;have h2:=E.out.ph;omega
            have m2:¬(b1=po):=by have h2:=E.out.ph;omega
            have m5:¬(po=b1):=fun e=>m2 e.symm
            have j3:=hid (fun v0 v1 v2 v3 v4 v5 v6=>OutAt.end (v0:=v0) (v1:=v1) (v2:=v2) (v3:=v3) (v4:=v4) (v5:=v5) (v6:=v6) E.out HL.out b5.out BW.out E1.out)
            clear kz kf E b5;go_wp2;exact bodyPost_ret (v:=Y.v) (by simp[results,Tryz.results6,go_sem, *]) rfl (j3.out _ _ _ _ _ _ _)
end Go.Proofs.YtbmcgbmegcpgnaaGreat
