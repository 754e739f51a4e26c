import Derived.Test.YtbmcgbmegcpgnaaGreatG5
import Derived.Test.YtbmcgbmegcpgnaaGreatVQDup1
import Derived.Test.YtbmcgbmegcpgnaaGreatVZWr1
import Derived.Test.YtbmcgbmegcpgnaaGreatG6
import Derived.Test.YtbmcgbmegcpgnaaGreatG1
import Derived.Deep.CutRange
set_option maxHeartbeats 8000000
set_option maxRecDepth 20000
set_option linter.unusedSimpArgs false
namespace Go.Proofs.YtbmcgbmegcpgnaaGreat
open Go.RowKit
structure Hi (B : Nat) (w w' : World) : Prop where
 os : w'.os = w.os
 tape : w'.tape = w.tape
 output : w'.output = w.output
 size : w.heap.size <= w'.heap.size
 blk : ∀ k, B <= k -> k < w.heap.size -> w'.heap[k]? = w.heap[k]?
theorem Hi.refl(B:Nat)(w:World):Hi B w w:=⟨rfl,rfl,rfl,zos _,fun _ _ _=>rfl⟩
theorem Hi.trans{B:Nat}{a b c:World}(h:Hi B a b)(k:Hi B b c):Hi B a c:=⟨k.os.trans h.os,k.tape.trans h.tape,k.output.trans h.output,zoz h.size k.size,fun i e d=>(k.blk i e (zom d h.size)).trans (h.blk i e d)⟩
theorem Hi.rn{B p:Nat}{w w':World}(r:Rn p w w')(b:p<B):Hi B w w':=⟨r.os,r.tape,r.output,r.size,fun k c a=>r.block k a (by omega)⟩
theorem Hi.of{B:Nat}{w w':World}(b:Below w.heap.size w w'):Hi B w w':=⟨b.os,b.tape,b.output,b.size,fun k _ a=>b.block k a⟩
theorem Hi.put{B b:Nat}{w w':World}(h:Hi B w w')(hb:b<B)(o:Nat)(v:Value):Hi B w (w'.setCell ⟨b,o,none⟩ v):=h.trans ⟨rfl,rfl,rfl,by simp[World.setCell],fun k a _=>zop _ _ _ _ (by show k≠b;omega)⟩
theorem Hi.far{B C:Nat}{w a w2:World}(h:Hi B w a)(b:Below C a w2)(e:w.heap.size<=C):Hi B w w2:=⟨b.os.trans h.os,b.tape.trans h.tape,b.output.trans h.output,zoz h.size b.size,fun k d c=>(b.block k (by omega)).trans (h.blk k d c)⟩
theorem Hi.low{B C:Nat}{w w':World}(h:Hi B w w')(c:B<=C):Below ((mask (fun b=>b<C) (fun _=>Classical.propDecidable _) w)).heap.size ((mask (fun b=>b<C) (fun _=>Classical.propDecidable _) w)) ((mask (fun b=>b<C) (fun _=>Classical.propDecidable _) w')):=
 yT h.os h.tape h.output h.size (fun _ h=>h) fun k a hF=>⟨hF,h.blk k (by have:¬k<C:=hF;omega) a⟩
theorem qq{B C:Nat}(w:World)(h:B<=C):Cov ((mask (fun b=>b<C) (fun _=>Classical.propDecidable _) w)) ((mask (fun b=>b<B) (fun _=>Classical.propDecidable _) w)):=jt w fun b (hb:b<B)=>(show b<C by omega)
theorem Tk.far{p:Nat}{a:Option Addr}{c:Nat}{zs:List Int}{s:Except (Int × Int) Nat}{w w':World}(h:Tk p a c zs s w){B:Nat}(b:Below B w w')(d:p<B):Tk p a c zs s w':=by
 have e:∀(o:Nat) (v:Value),w.cell? ⟨p,o,none⟩=some v->w'.cell? ⟨p,o,none⟩=some v:=fun o v k=>(b.cell (p:=⟨p,o,none⟩) d).trans k
 obtain⟨t,j,i,g⟩:=h.c1;exact⟨e _ _ h.c0,⟨t,e _ _ j,i,g⟩,e _ _ h.c2,e _ _ h.c3,(b.frozen (p:=⟨p,1,none⟩) d).trans h.f1,(b.frozen (p:=⟨p,2,none⟩) d).trans h.f2,(b.frozen (p:=⟨p,3,none⟩) d).trans h.f3,h.nz,h.hz.blk b.size (fun ad f=>b.block _ (by have:=h.lo ad f;omega)),h.few,h.lo⟩
theorem Tk.put_far{p:Nat}{a:Option Addr}{c:Nat}{zs:List Int}{s:Except (Int × Int) Nat}{w:World}(h:Tk p a c zs s w){g:Nat}(d:p<g)(o:Nat)(v:Value):Tk p a c zs s (w.setCell ⟨g,o,none⟩ v):=
 h.far (B:=p+1) ⟨rfl,rfl,rfl,by simp[World.setCell],fun k b=>zop _ _ _ _ (by show k≠g;omega)⟩ (zoF _)
structure TSt (p : Nat) (a : Option Addr) (c : Nat) (zs : List Int) (T : TypeId) (bx : Nat) (w0 : World) (s : Except (Int × Int) Nat) (vs : List Value) (w : World) : Prop where
 tk : Tk p a c zs s w
 rn : Rn p w0 w
 box : BoxAt T w bx vs
 new : w0.heap.size <= bx
 lt : p < bx
theorem TSt.start{p:Nat}{a:Option Addr}{c:Nat}{zs:List Int}{s:Except (Int × Int) Nat}{w0 w:World}(h:Tk p a c zs s w)(r:Rn p w0 w)(T:TypeId)(b:List Value):TSt p a c zs T w.heap.size w0 s b (w.alloc (.cells b.toArray T)):=
 ⟨h.step (ze (zof _ _)),r.trans (Rn.of (ze (zof _ _))),BoxAt.new T w b,r.size,h.lt⟩
theorem TSt.read{p:Nat}{a:Option Addr}{c:Nat}{zs:List Int}{T:TypeId}{b:Nat}{w0:World}{s f:Except (Int × Int) Nat}{e:List Value}{w w':World}(h:TSt p a c zs T b w0 s e w)(r:Rn p w w')(d:Tk p a c zs f w'):TSt p a c zs T b w0 f e w':=
 ⟨d,h.rn.trans r,(r.block b h.box.lt (by have:=h.lt;omega)).trans h.box,h.new,h.lt⟩
theorem TSt.put{p:Nat}{a:Option Addr}{c:Nat}{zs:List Int}{T:TypeId}{b:Nat}{w0:World}{s:Except (Int × Int) Nat}{d:List Value}{w:World}(h:TSt p a c zs T b w0 s d w)(i:Nat)(v:Value):TSt p a c zs T b w0 s (d.set i v) (w.setCell ⟨b,i,none⟩ v):=
 ⟨h.tk.put_far h.lt i v,h.rn.put_new h.new i v,h.box.put i v,h.new,h.lt⟩
theorem TSt.far{p:Nat}{a:Option Addr}{c:Nat}{zs:List Int}{T:TypeId}{d:Nat}{w0:World}{s:Except (Int × Int) Nat}{f:List Value}{w w':World}(h:TSt p a c zs T d w0 s f w){B:Nat}(b:Below B w w')(e:d<B):TSt p a c zs T d w0 s f w':=
 ⟨h.tk.far b (Nat.lt_trans h.lt e),⟨b.os.trans h.rn.os,b.tape.trans h.rn.tape,b.output.trans h.rn.output,zoz h.rn.size b.size,fun k i g=>(b.block k (by have:=h.new;omega)).trans (h.rn.block k i g)⟩,(b.block d e).trans h.box,h.new,h.lt⟩
theorem TSt.step{p:Nat}{a:Option Addr}{c:Nat}{zs:List Int}{T:TypeId}{d:Nat}{w0:World}{s:Except (Int × Int) Nat}{e:List Value}{w w':World}(h:TSt p a c zs T d w0 s e w)(b:Below w.heap.size w w'):TSt p a c zs T d w0 s e w':=h.far b h.box.lt
structure RowS {α : Type} (K : Kd α) (T : TypeId) (B : Nat) (S : List α) (s : QSl) (w : World) : Prop where
 len : S.length = s.n
 own : w.ownsRow B T K.k (.slice s.a s.n s.c) s.n (S.flatMap K.cells)
 inn : ∃ F : Nat -> Prop, (∀ x ∈ S, K.inn x (mask F (fun _ => Classical.propDecidable _) w)) /\ (∀ b, (Value.slice s.a s.n s.c).ownBlock = some b -> F b) /\ (∀ b, b < B -> F b) /\ ∀ b, F b -> b < w.heap.size
theorem RowS.nil{α :Type}(K:Kd α)(T:TypeId){B:Nat}{w:World}(h:B<=w.heap.size):RowS K T B [] ⟨none,0,0⟩ w:=
 ⟨rfl,zoH _ _ _ _,fun b=>b<B,fun x a=>(by simp at a),fun b hb=>(by simp[Value.ownBlock]at hb),fun b hb=>hb,fun b (hb:b<B)=>by omega⟩
theorem RowS.keep{α :Type}{K:Kd α}{T:TypeId}{B:Nat}{S:List α}{s:QSl}{w w':World}(h:RowS K T B S s w)(r:Hi B w w'):RowS K T B S s w':=by
 obtain⟨F,f1,f2,f3,i⟩:=h.inn;refine⟨h.len,⟨h.own.1,?_⟩,F,fun x m=>K.step (f1 x m) ?_,f2,f3,fun b hb=>zom (i b hb) r.size⟩
 ·rcases h.own.2 with c|⟨g,cap,d,c,f,e,l⟩
  ·exact .inl c
  ·exact .inr ⟨g,cap,d,c,f,(r.blk g f (zoj.1 e).1).trans e,l⟩
 ·exact yT r.os r.tape r.output r.size (fun _ h=>h) fun k j hF=>⟨hF,r.blk k (Nat.le_of_not_lt fun a=>hF (f3 k a)) j⟩
theorem RowS.push{α :Type}{K:Kd α}{T J:TypeId}{z:Value}{bs:Nat}(P:TypeId)(X:Tryz.prog.underlying J=some (.slice T))(t:(Tryz.prog.info? T).map (fun i=>(i.zero,i.size,i.bytes))=some (some z,K.k,bs))(I:z.cells.size=K.k)(L:bs<=1000)
 {B:Nat} {S:List α} {s:QSl} {w0 w:World} (h:RowS K T B S s w0) (r:Hi B w0 w) (N:B<=w0.heap.size) {x: α} (R:K.inn x ((mask (fun b=>b<w0.heap.size) (fun _=>Classical.propDecidable _) w))) {ad:Addr} {c:Nat} (Q:∀j u,(K.cells x)[j]?=some u->w.cell? (ad.add j)=some u) (U:s.n<=100000):
 ∃E w',(Builtin.append_ #[J,J] P #[.slice s.a s.n s.c,.slice (some ad) 1 c]).run Tryz.prog w=.ok (.slice E.a E.n E.c) w'/\E.n=s.n+1/\RowS K T B (S++[x]) E w'/\Below B w w':=by
 have o:=h.keep r;obtain⟨g,G,w',D,O,f,W⟩:=xL (c:=c) P X t I K.pos o.own (m:=1) (news:=K.cells x) (by rw[K.len,Nat.one_mul]) Q (K.one x) (by omega) (by unfold maxLen;omega) (by
  have:(s.n+1)*bs<=100001*1000:=Nat.mul_le_mul (by omega) L
  omega) (zoz N r.size)
 obtain⟨F,f1,f2,f3,H⟩:=h.inn;have C:∀b,(Value.slice s.a s.n s.c).ownBlock=some b->b<w0.heap.size:=fun b hb=>H b (f2 b hb)
 have l:(Value.slice s.a s.n s.c).ownBlock=some g\/w.heap.size<=g:=W.elim (fun e=>.inl (by rw[e];rfl)) .inr
 refine⟨⟨some ⟨g,0,none⟩,s.n+1,G⟩,w',D,rfl,⟨by rw[List.length_append,h.len];rfl,?_,zae F g,?_,fun b hb=>.inr (zoq hb).symm,fun b hb=>.inl (f3 b hb),?_⟩,?_⟩
 ·rw[show(S++[x]).flatMap K.cells=S.flatMap K.cells++K.cells x by simp]
  exact O
 ·intro y A;rcases List.mem_append.1 A with A|A
  ·refine K.step (f1 y A) (yT (f.os.trans r.os) (f.tape.trans r.tape) (f.output.trans r.output) (zoz r.size f.size) (fun _ h=>.inl h) fun k o hF=>⟨fun d=>?_,?_⟩)
   ·rcases d with d|rfl
    ·exact hF d
    ·rcases l with l|l
     ·exact hF (f2 _ l)
     ·have:=r.size;omega
   ·rw[f.block k (zom o r.size) (fun e=>hF (f2 k e.symm)),r.blk k (Nat.le_of_not_lt fun M=>hF (f3 k M)) o]
  ·simp only[zoD,zoA,or_false]at A;subst A;have V:Below ((mask (fun b=>b<w0.heap.size) (fun _=>Classical.propDecidable _) w)).heap.size ((mask (fun b=>b<w0.heap.size) (fun _=>Classical.propDecidable _) w)) (mask (zae (fun b=>b<w0.heap.size) g) (fun _=>Classical.propDecidable _) w'):=by
    refine yT f.os f.tape f.output f.size (fun _ h=>.inl h) fun k o hF=>?_
    have d:¬k<w0.heap.size:=hF;refine⟨fun q=>?_,f.block k o (fun e=>d (C k e.symm))⟩
    rcases q with q|rfl
    ·exact d q
    ·rcases l with l|l
     ·exact d (C _ l)
     ·omega
   refine K.cov (K.step R V) (jt _ fun b hb=>?_)
   rcases hb with hb|hb
   ·exact .inl (H b hb)
   ·exact .inr hb
 ·intro b hb;rcases hb with hb|rfl
  ·exact zom (H b hb) (zoz r.size f.size)
  ·exact(O.lt b rfl).2
 ·exact(zof _ _).grown f (zoz N r.size) (fun k e=>(o.own.lt k e).1)
theorem RowS.fin{α :Type}{K:Kd α}{T:TypeId}{B:Nat}{S:List α}{s:QSl}{w:World}(h:RowS K T B S s w):QRow K.k K.lie ((mask (fun b=>b<B) (fun _=>Classical.propDecidable _) w)) s S/\s.nil0/\s.n<=s.c:=by
 obtain⟨F,f1,f2,f3,l⟩:=h.inn;refine⟨K.row (base:=B) (T:=T) ⟨h.own.1,?_⟩ fun x j=>K.cov (f1 x j) (jt w fun b hb=>f3 b hb),Kd.own_nil0 h.own,?_⟩
 ·rcases h.own.2 with a|⟨g,cap,d,a,e,f,i⟩
  ·exact .inl a
  ·exact .inr ⟨g,cap,d,a,e,(yA (by show¬g<B;omega)).trans f,i⟩
 ·rcases h.own.2 with⟨a,e⟩|⟨g,cap,d,a,e,f,i,_⟩
  ·simp only[zox]at a;omega
  ·simp only[zox]at a;omega
def zqq{α β γ :Type}(K:Kd α)(a: α->γ)(px: β->γ)(B:Nat)(X: β)(v:Value)(w:World):Prop:=∃d,v=.agg (K.cells d).toArray/\K.inn d ((mask (fun b=>b<B) (fun _=>Classical.propDecidable _) w))/\a d=px X
def ListV{α β γ :Type}(K:Kd α)(d: α->γ)(px: β->γ)(B:Nat)(X:List β)(v:Value)(w:World):Prop:=∃s S,v=.slice s.a s.n s.c/\QRow K.k K.lie ((mask (fun b=>b<B) (fun _=>Classical.propDecidable _) w)) s S/\s.nil0/\s.n<=s.c/\S.map d=X.map px
theorem Tryz.infoRefR:(Tryz.prog.info? 48).map (fun i=>(i.zero,i.size,i.bytes))=some (some (.agg #[.int .i64 0,.int .i64 0]),2,16):=by kernel_rfl
@[reducible] def zrW(x:Int × Int):List Value:=[.int .i64 x.1,.int .i64 x.2]
def RefsV(w:World)(a:List (Int × Int))(w':World)(v:Value):Prop:=∃g,v=.slice (some ⟨g,0,none⟩) a.length a.length/\w.heap.size<=g/\RowK zrW 2 48 a.length w' g a/\∀x∈a,(Lit.int .i64 x.1).wf=true/\(Lit.int .i64 x.2).wf=true
theorem zsV{p:Nat}{a:Option Addr}{c:Nat}{zs:List Int}{t:Nat}{w:World}(h:Rd p a c zs t w):
 Calls Tryz.prog 151 #[.pointer (some ⟨p,0,none⟩),.func (.func 147) #[.pointer (some ⟨p,0,none⟩)] #[]] w (ka p a c zs (RefsV w) (yz zs (jp zs) t) w):=by
 have HP:=hid (zp2 h);clear h;go_enter Tryz.func151,Tryz.ntmps151
 go_wp2_with fail
 refine HP.out.mono ?_;rintro e J ⟨Y,V⟩;cases H:zpl zs t with
 |error e=>
  have U:yz zs (jp zs) t=.error e:=by unfold yz;rw[H]
  rw[H]at V;obtain rfl:=V;exact yl (P:=Tryz.prog) (fn:=Tryz.f151) (by rw[U];exact⟨Y,rfl⟩) rfl
 |ok x=>
  obtain⟨m,t1⟩:=x;have U:yz zs (jp zs) t=xh (jp zs) m t1:=by unfold yz;rw[H]
  rw[H]at V;obtain⟨_,rfl,⟨rfl,hm⟩,s⟩:=V;obtain⟨i0,hi,O,M,S⟩:=info_parts Tryz.infoRefR;have A:m<=100000:=zoz hm s.few;have a1:∀W:World,(Instr.makeSlice 60 (.int .i64 (m:Int)) (.int .i64 (m:Int))).run Tryz.prog W=.ok (.slice (some ⟨W.heap.size,0,none⟩) m m) (W.alloc (.cells (madeCells #[.int .i64 0,.int .i64 0] (m*2)) 48)):=fun W=>by
   have h:=run_make (P:=Tryz.prog) W 60 48 i0 _ Tryz.underlying60 hi O .i64 .i64 (m:Int) (m:Int) (by omega) (by omega) (by rw[S];omega) (by omega)
   rw[show((m:Int)).toNat=m by omega,M]at h
   exact h
  obtain⟨X,hW⟩:∃X,X=J.alloc (.cells (madeCells #[.int .i64 0,.int .i64 0] (m*2)) 48):=⟨_,rfl⟩;obtain⟨g,hg⟩:∃g,g=J.heap.size:=⟨_,rfl⟩;have b2:Below J.heap.size J X:=by rw[hW];exact ze (zof _ _)
  have R0:RowK zrW 2 48 m X g []:=by
   rw[hW,hg];exact RowK.new zrW 2 _ m J _ (by simp[madeCells])
  have F:=hid (s.step b2);have D:=hid (Y.trans (Rn.of b2));have T:p<g:=by rw[hg];exact zog _ _ s.c0
  have B:Hid (w.heap.size<=g):=by show w.heap.size<=g;rw[hg];exact Y.size
  have G:Hid (p<g):=T;have a3:Hid (g≠p):=by show g≠p;omega
  have d:=hid R0;have EW:=hid hW;have EG:=hid hg;have E1:=hid U;have a8:=hid A;clear HP H s Y U hm hi O M S hW hg b2 R0 T A;go_wp2;rw[<-EW.out,<-EG.out];clear EW EG a1;go_loopw [12,6] (fun q _ wr=>∃(i u:Nat) (j:List (Int × Int)),q=.int .i64 (i:Int)/\Hid (i<=m)/\Hid (j.length=i)/\Hid (∀x∈j,(Lit.int .i64 x.1).wf=true/\(Lit.int .i64 x.2).wf=true)/\Hid (xk j (xh (jp zs) (m-i) u)=yz zs (jp zs) t)/\Hid (Rd p a c zs u wr)/\Hid (Rn p w wr)/\Hid (RowK zrW 2 48 m wr g j)) (fun q _ _=>m-(intOf q).toNat)
  case atStart=>
   refine⟨0,t1,[],rfl,zon _,rfl,fun x hx=>(by simp at hx),?_,F,D,d⟩
   show xk [] (xh (jp zs) m t1)=_;rw[E1.out];cases xh (jp zs) m t1 with
   |error e=>rfl
   |ok y=>rfl
  case round=>
   obtain⟨i,u,j,rfl,HI,N,r,Z,F,D,d⟩:=hrel;by_cases a7:i<m
   ·have a6:(i:Int)<(m:Int):=by omega
    have HF:=hid (zra F.out);go_wp2_with fail
    refine HF.out.mono ?_;rintro e w3 ⟨n,f⟩;have E:=Z.out;rw[show m-i=(m-i-1)+1 by omega]at E
    cases R:jp zs u with
    |error e=>
     rw[zo5 _ _ _ _ e R]at E;rw[R]at f;obtain rfl:=f;exact yl (P:=Tryz.prog) (fn:=Tryz.f151) (by rw[<-E];exact⟨D.out.trans n,rfl⟩) rfl
    |ok y=>
     obtain⟨x,u'⟩:=y;rw[zo4 _ _ _ _ x u' R]at E;rw[R]at f;obtain⟨_,rfl,⟨rfl,L⟩,f⟩:=f;have b:=d.out.rn n a3.out;have k:=N.out;have hb:i*2+2<=m*2:=by omega
     obtain⟨o0,k0⟩:=b.some (o:=i*2) (by omega)
     obtain⟨o1,k1⟩:=b.some (o:=i*2+1) (by omega)
     have z0:=b.fz (i*2);have z1:=b.fz (i*2+1);have k2:=b.lt;have p1:=b.put (fun _=>rfl) (i*2) (.int .i64 x.1) (by omega) (by omega)
     have p2:=p1.1.put (fun _=>rfl) (i*2+1) (.int .i64 x.2) (by omega) (by omega)
     have a4:=hid ((f.put_far G.out (i*2) (.int .i64 x.1)).put_far G.out (i*2+1) (.int .i64 x.2));have a5:=hid (((D.out.trans n).put_new B.out (i*2) (.int .i64 x.1)).put_new B.out (i*2+1) (.int .i64 x.2));have C:Hid (RowK zrW 2 48 m ((w3.setCell ⟨g,i*2,none⟩ (.int .i64 x.1)).setCell ⟨g,i*2+1,none⟩ (.int .i64 x.2)) g (j++[x])):=by
      refine p2.1.more x fun l u K=>?_
      rw[k];match l,K with
      |0,K=>cases K;exact(zou _ _ _ _ (by intro e;simp only[Addr.mk.injEq]at e;omega)).trans p1.2
      |1,K=>cases K;exact p2.2
     have a2:Hid (xk (j++[x]) (xh (jp zs) (m-(i+1)) u')=yz zs (jp zs) t):=by
      show _=_;rw[<-E,show m-(i+1)=m-i-1 by omega]
     have a0:Hid ((j++[x]).length=i+1):=by show _=_;rw[List.length_append,N.out];rfl
     have I:Hid (∀y∈j++[x],(Lit.int .i64 y.1).wf=true/\(Lit.int .i64 y.2).wf=true):=fun y hy=>by
      rcases List.mem_append.1 hy with h|h
      ·exact r.out y h
      ·simp only[zoD,zoA,or_false]at h;rw[h];exact L
     have a9:=a8.out;clear HF n f E R b Z N r d F D L p1 p2 k;go_wp2;go_roundw
     case rel=>exact⟨i+1,u',j++[x],zhs (by omega),hid a7,a0,I,a2,a4,a5,C⟩
     case measure=>simp[intOf];omega
   ·have a6:¬(i:Int)<(m:Int):=by omega
    have e3:m-i=0:=by omega
    have HE:Hid (ka p a c zs (RefsV w) (yz zs (jp zs) t) w (.returned (.slice (some ⟨g,0,none⟩) m m)) wr):=by
     show ka _ _ _ _ _ _ _ _ _;rw[<-Z.out,e3];have k:j.length=m:=by have h1:=N.out;have h2:=HI.out;omega
     have Q:=d.out;refine⟨D.out,_,rfl,⟨g,?_,B.out,?_,?_⟩,F.out⟩
     ·rw[List.append_nil,k]
     ·rw[List.append_nil,k];exact Q
     ·rw[List.append_nil];exact r.out
    clear Z N r d F D;go_wp2;go_ret;exact HE.out
def zo6(zs:List Int)(t:Nat):Except (Int × Int) ((Int × Int × Int × Int) × Nat):=y7 (ke zs t) fun op u=>
 if op=1 then y7 (zo0 zs u) fun n a=>.ok ((op,0,0,n),a)else if op=2 then y7 (jp zs u) fun r a=>.ok ((op,r.1,r.2,0),a)else .ok ((op,0,0,0),u)
@[reducible] def zrb(x:Int × Int × Int × Int):List Value:=[.int .i64 x.1,.int .i64 x.2.1,.int .i64 x.2.2.1,.int .u64 x.2.2.2]
def zrG(x:Int × Int × Int × Int):Prop:=(Lit.int .i64 x.1).wf=true/\(Lit.int .i64 x.2.1).wf=true/\(Lit.int .i64 x.2.2.1).wf=true/\(Lit.int .u64 x.2.2.2).wf=true
def zsD(x:Int × Int × Int × Int)(_:World)(v:Value):Prop:=v=.agg #[.int .i64 x.1,.int .i64 x.2.1,.int .i64 x.2.2.1,.int .u64 x.2.2.2]/\zrG x
theorem zvk{p:Nat}{a:Option Addr}{c:Nat}{zs:List Int}{t:Nat}{w:World}(h:Rd p a c zs t w):
 Calls Tryz.prog 163 #[.pointer (some ⟨p,0,none⟩)] w (ka p a c zs zsD (zo6 zs t) w):=by
 obtain⟨S,eW⟩:∃S,S=w.alloc (.cells #[.int .i64 0,.int .i64 0,.int .i64 0,.int .u64 0] 144):=⟨_,rfl⟩;obtain⟨bx,ebx⟩:∃b,b=w.heap.size:=⟨_,rfl⟩;have L:Hid (RSt p a c zs 144 bx w t [.int .i64 0,.int .i64 0,.int .i64 0,.int .u64 0] S):=by rw[eW,ebx];exact RSt.start h _ _
 have X:=hid (zpb L.out.rd);have Z:=hid eW;have EB:=hid ebx;clear h eW ebx;go_enter Tryz.func163,Tryz.ntmps163
 go_wp2_with fail
 rw[<-Z.out,<-EB.out];clear Z EB;refine X.out.mono ?_;rintro e w2 ⟨C,m⟩;cases s:ke zs t with
 |error e=>
  rw[s]at m;obtain rfl:=m;exact yl (P:=Tryz.prog) (fn:=Tryz.f163) (by unfold zo6;rw[s];exact⟨L.out.rn.trans C,rfl⟩) rfl
 |ok y=>
  obtain⟨op,u1⟩:=y;rw[s]at m;obtain⟨_,rfl,⟨rfl,I⟩,m⟩:=m;have F:=L.out.read C m;have G:=F.box.cell (i:=0) rfl;have z0:=F.box.fz 0;have O:=F.box.lt;obtain⟨K,eW3⟩:∃K,K=w2.setCell ⟨bx,0,none⟩ (.int .i64 op):=⟨_,rfl⟩;have u:Hid (RSt p a c zs 144 bx w u1 [.int .i64 op,.int .i64 0,.int .i64 0,.int .u64 0] K):=by rw[eW3];exact F.put 0 _ rfl (fun n h=>by cases h)
  have E3:=hid eW3;have o:=hid I;have D:Hid (zo6 zs t=if op=1 then y7 (zo0 zs u1) fun n A=>.ok ((op,0,0,n),A)else if op=2 then y7 (jp zs u1) fun r A=>.ok ((op,r.1,r.2,0),A)else .ok ((op,0,0,0),u1)):=by
   show _=_;unfold zo6;rw[s];rfl
  clear X C m L F eW3 s I;go_upto_region 2 with fail
  rw[<-E3.out];clear E3 G z0 O;have c0:=u.out.box.cell (i:=0) rfl;have Y:(Lit.int .i64 0).wf=true:=by decide
  have wu:(Lit.int .u64 0).wf=true:=by decide
  have J:=hid Y;have WU:=hid wu;clear Y wu;by_cases N:op=1
  ·subst N;have B:Hid (zo6 zs t=y7 (zo0 zs u1) fun n A=>.ok ((1,0,0,n),A)):=by show _=_;rw[D.out,if_pos rfl]
   clear D;have x:=hid (zqT u.out.rd);go_wp2_with fail
   refine x.out.mono ?_;rintro e V ⟨l,f⟩;cases g:zo0 zs u1 with
   |error e=>
    rw[g]at f;obtain rfl:=f;exact yl (P:=Tryz.prog) (fn:=Tryz.f163) (by rw[B.out,g];exact⟨u.out.rn.trans l,rfl⟩) rfl
   |ok y=>
    obtain⟨q,u2⟩:=y;rw[g]at f;obtain⟨_,rfl,⟨rfl,j⟩,f⟩:=f;have d:=u.out.read l f;have k:=((((d.put 3 (.int .u64 q) rfl (fun n h=>by cases h)).put 0 (.int .i64 1) rfl (fun n h=>by cases h)).put 1 (.int .i64 0) rfl (fun n h=>by cases h)).put 2 (.int .i64 0) rfl (fun n h=>by cases h)).put 3 (.int .u64 q) rfl (fun n h=>by cases h)
    have H:Hid (ka p a c zs zsD (zo6 zs t) w (.returned (.agg #[.int .i64 1,.int .i64 0,.int .i64 0,.int .u64 q])) (((((V.setCell ⟨bx,3,none⟩ (.int .u64 q)).setCell ⟨bx,0,none⟩ (.int .i64 1)).setCell ⟨bx,1,none⟩ (.int .i64 0)).setCell ⟨bx,2,none⟩ (.int .i64 0)).setCell ⟨bx,3,none⟩ (.int .u64 q))):=by
     show ka _ _ _ _ _ _ _ _ _;rw[B.out,g];exact⟨k.rn,_,rfl,⟨rfl,o.out,J.out,J.out,j⟩,k.rd⟩
    have G:=d.box.cell (i:=0) rfl;have W:=d.box.cell (i:=1) rfl;have R:=d.box.cell (i:=2) rfl;have U:=d.box.cell (i:=3) rfl;have z0:=d.box.fz 0;have z1:=d.box.fz 1;have T:=d.box.fz 2;have Q:=d.box.fz 3;have O:=d.box.lt;clear x l f g j u d k B o c0;go_wp2;exact bodyPost_ret (v:=.agg #[.int .i64 1,.int .i64 0,.int .i64 0,.int .u64 q]) (by simp[results,Tryz.results163,go_sem, *]) rfl H.out
  ·have d1:(op==1)=false:=by simpa using N
   by_cases M:op=2
   ·subst M;have B:Hid (zo6 zs t=y7 (jp zs u1) fun r A=>.ok ((2,r.1,r.2,0),A)):=by show _=_;rw[D.out,if_neg (by decide),if_pos rfl]
    clear D;have x:=hid (zra u.out.rd);go_wp2_with fail
    refine x.out.mono ?_;rintro e V ⟨l,f⟩;cases g:jp zs u1 with
    |error e=>
     rw[g]at f;obtain rfl:=f;exact yl (P:=Tryz.prog) (fn:=Tryz.f163) (by rw[B.out,g];exact⟨u.out.rn.trans l,rfl⟩) rfl
    |ok y=>
     obtain⟨⟨q,E⟩,u2⟩:=y;rw[g]at f;obtain⟨_,rfl,⟨rfl,j⟩,f⟩:=f;dsimp only at j;have d:=u.out.read l f;have k:=(((((d.put 1 (.int .i64 q) rfl (fun n h=>by cases h)).put 2 (.int .i64 E) rfl (fun n h=>by cases h)).put 0 (.int .i64 2) rfl (fun n h=>by cases h)).put 1 (.int .i64 q) rfl (fun n h=>by cases h)).put 2 (.int .i64 E) rfl (fun n h=>by cases h)).put 3 (.int .u64 0) rfl (fun n h=>by cases h)
     have H:Hid (ka p a c zs zsD (zo6 zs t) w (.returned (.agg #[.int .i64 2,.int .i64 q,.int .i64 E,.int .u64 0])) ((((((V.setCell ⟨bx,1,none⟩ (.int .i64 q)).setCell ⟨bx,2,none⟩ (.int .i64 E)).setCell ⟨bx,0,none⟩ (.int .i64 2)).setCell ⟨bx,1,none⟩ (.int .i64 q)).setCell ⟨bx,2,none⟩ (.int .i64 E)).setCell ⟨bx,3,none⟩ (.int .u64 0))):=by
      show ka _ _ _ _ _ _ _ _ _;rw[B.out,g];exact⟨k.rn,_,rfl,⟨rfl,o.out,j.1,j.2,WU.out⟩,k.rd⟩
     have G:=d.box.cell (i:=0) rfl;have W:=d.box.cell (i:=1) rfl;have R:=d.box.cell (i:=2) rfl;have U:=d.box.cell (i:=3) rfl;have z0:=d.box.fz 0;have z1:=d.box.fz 1;have T:=d.box.fz 2;have Q:=d.box.fz 3;have O:=d.box.lt;have G7:=hid (And.intro (k.box.cell (i:=0) rfl) (And.intro (k.box.cell (i:=1) rfl) (And.intro (k.box.cell (i:=2) rfl) (k.box.cell (i:=3) rfl))));clear x l f g j u d k B o c0;go_wp2;obtain⟨g0,g1,g2,g3⟩:=G7.out;clear G W R U z0 z1 T Q;exact bodyPost_ret (v:=.agg #[.int .i64 2,.int .i64 q,.int .i64 E,.int .u64 0]) (by simp[results,Tryz.results163,go_sem,g0,g1,g2,g3]) rfl H.out
   ·have d2:(op==2)=false:=by simpa using M
    have d:=u.out;have k:=(((d.put 0 (.int .i64 op) rfl (fun n h=>by cases h)).put 1 (.int .i64 0) rfl (fun n h=>by cases h)).put 2 (.int .i64 0) rfl (fun n h=>by cases h)).put 3 (.int .u64 0) rfl (fun n h=>by cases h)
    have H:Hid (ka p a c zs zsD (zo6 zs t) w (.returned (.agg #[.int .i64 op,.int .i64 0,.int .i64 0,.int .u64 0])) ((((K.setCell ⟨bx,0,none⟩ (.int .i64 op)).setCell ⟨bx,1,none⟩ (.int .i64 0)).setCell ⟨bx,2,none⟩ (.int .i64 0)).setCell ⟨bx,3,none⟩ (.int .u64 0))):=by
     show ka _ _ _ _ _ _ _ _ _;rw[D.out,if_neg N,if_neg M];exact⟨k.rn,_,rfl,⟨rfl,o.out,J.out,J.out,WU.out⟩,k.rd⟩
    have G:=d.box.cell (i:=0) rfl;have W:=d.box.cell (i:=1) rfl;have R:=d.box.cell (i:=2) rfl;have U:=d.box.cell (i:=3) rfl;have z0:=d.box.fz 0;have z1:=d.box.fz 1;have T:=d.box.fz 2;have Q:=d.box.fz 3;have O:=d.box.lt;clear u d k D o c0 N M;go_wp2;exact bodyPost_ret (v:=.agg #[.int .i64 op,.int .i64 0,.int .i64 0,.int .u64 0]) (by simp[results,Tryz.results163,go_sem, *]) rfl H.out
theorem Tryz.infoPushR:(Tryz.prog.info? 144).map (fun i=>(i.zero,i.size,i.bytes))=some (some (.agg #[.int .i64 0,.int .i64 0,.int .i64 0,.int .u64 0]),4,32):=by kernel_rfl
def PushsV(w:World)(a:List (Int × Int × Int × Int))(w':World)(v:Value):Prop:=∃g,v=.slice (some ⟨g,0,none⟩) a.length a.length/\w.heap.size<=g/\RowK zrb 4 144 a.length w' g a/\∀x∈a,zrG x
theorem zsg{p:Nat}{a:Option Addr}{c:Nat}{zs:List Int}{t:Nat}{w:World}(h:Rd p a c zs t w):
 Calls Tryz.prog 162 #[.pointer (some ⟨p,0,none⟩),.func (.func 163) #[.pointer (some ⟨p,0,none⟩)] #[]] w (ka p a c zs (PushsV w) (yz zs (zo6 zs) t) w):=by
 have HP:=hid (zp2 h);clear h;go_enter Tryz.func162,Tryz.ntmps162
 go_wp2_with fail
 refine HP.out.mono ?_;rintro e K ⟨Y,V⟩;cases I:zpl zs t with
 |error e=>
  have U:yz zs (zo6 zs) t=.error e:=by unfold yz;rw[I]
  rw[I]at V;obtain rfl:=V;exact yl (P:=Tryz.prog) (fn:=Tryz.f162) (by rw[U];exact⟨Y,rfl⟩) rfl
 |ok x=>
  obtain⟨m,t1⟩:=x;have U:yz zs (zo6 zs) t=xh (zo6 zs) m t1:=by unfold yz;rw[I]
  rw[I]at V;obtain⟨_,rfl,⟨rfl,hm⟩,C⟩:=V;obtain⟨i0,hi,O,M,S⟩:=info_parts Tryz.infoPushR;have D:m<=100000:=zoz hm C.few;have a1:∀W:World,(Instr.makeSlice 57 (.int .i64 (m:Int)) (.int .i64 (m:Int))).run Tryz.prog W=.ok (.slice (some ⟨W.heap.size,0,none⟩) m m) (W.alloc (.cells (madeCells #[.int .i64 0,.int .i64 0,.int .i64 0,.int .u64 0] (m*4)) 144)):=fun W=>by
   have h:=run_make (P:=Tryz.prog) W 57 144 i0 _ Tryz.underlying57 hi O .i64 .i64 (m:Int) (m:Int) (by omega) (by omega) (by rw[S];omega) (by omega)
   rw[show((m:Int)).toNat=m by omega,M]at h
   exact h
  obtain⟨X,hW⟩:∃X,X=K.alloc (.cells (madeCells #[.int .i64 0,.int .i64 0,.int .i64 0,.int .u64 0] (m*4)) 144):=⟨_,rfl⟩;obtain⟨g,hg⟩:∃g,g=K.heap.size:=⟨_,rfl⟩;have b2:Below K.heap.size K X:=by rw[hW];exact ze (zof _ _)
  have R0:RowK zrb 4 144 m X g []:=by
   rw[hW,hg];exact RowK.new zrb 4 _ m K _ (by simp[madeCells])
  have H:=hid (C.step b2);have F:=hid (Y.trans (Rn.of b2));have T:p<g:=by rw[hg];exact zog _ _ C.c0
  have k:Hid (w.heap.size<=g):=by show w.heap.size<=g;rw[hg];exact Y.size
  have r:Hid (p<g):=T;have a3:Hid (g≠p):=by show g≠p;omega
  have d:=hid R0;have EW:=hid hW;have EG:=hid hg;have E1:=hid U;have a8:=hid D;clear HP I C Y U hm hi O M S hW hg b2 R0 T D;go_wp2;rw[<-EW.out,<-EG.out];clear EW EG a1;go_loopw [12,6] (fun q _ wr=>∃(i u:Nat) (j:List (Int × Int × Int × Int)),q=.int .i64 (i:Int)/\Hid (i<=m)/\Hid (j.length=i)/\Hid (∀x∈j,zrG x)/\Hid (xk j (xh (zo6 zs) (m-i) u)=yz zs (zo6 zs) t)/\Hid (Rd p a c zs u wr)/\Hid (Rn p w wr)/\Hid (RowK zrb 4 144 m wr g j)) (fun q _ _=>m-(intOf q).toNat)
  case atStart=>
   refine⟨0,t1,[],rfl,zon _,rfl,fun x hx=>(by simp at hx),?_,H,F,d⟩
   show xk [] (xh (zo6 zs) m t1)=_;rw[E1.out];cases xh (zo6 zs) m t1 with
   |error e=>rfl
   |ok y=>rfl
  case round=>
   obtain⟨i,u,j,rfl,HI,N,A,Z,H,F,d⟩:=hrel;by_cases a7:i<m
   ·have a6:(i:Int)<(m:Int):=by omega
    have HF:=hid (zvk H.out);go_wp2_with fail
    refine HF.out.mono ?_;rintro e w3 ⟨s,f⟩;have G:=Z.out;rw[show m-i=(m-i-1)+1 by omega]at G
    cases R:zo6 zs u with
    |error e=>
     rw[zo5 _ _ _ _ e R]at G;rw[R]at f;obtain rfl:=f;exact yl (P:=Tryz.prog) (fn:=Tryz.f162) (by rw[<-G];exact⟨F.out.trans s,rfl⟩) rfl
    |ok y=>
     obtain⟨x,u'⟩:=y;rw[zo4 _ _ _ _ x u' R]at G;rw[R]at f;obtain⟨_,rfl,⟨rfl,L⟩,f⟩:=f;have b:=d.out.rn s a3.out;have n:=N.out;have hb:i*4+4<=m*4:=by omega
     obtain⟨o0,k0⟩:=b.some (o:=i*4) (by omega)
     obtain⟨o1,k1⟩:=b.some (o:=i*4+1) (by omega)
     obtain⟨o2,k2⟩:=b.some (o:=i*4+2) (by omega)
     obtain⟨o3,k3⟩:=b.some (o:=i*4+3) (by omega)
     have z0:=b.fz (i*4);have z1:=b.fz (i*4+1);have z2:=b.fz (i*4+2);have z3:=b.fz (i*4+3);have kl:=b.lt;have p1:=b.put (fun _=>rfl) (i*4) (.int .i64 x.1) (by omega) (by omega)
     have p2:=p1.1.put (fun _=>rfl) (i*4+1) (.int .i64 x.2.1) (by omega) (by omega)
     have p3:=p2.1.put (fun _=>rfl) (i*4+2) (.int .i64 x.2.2.1) (by omega) (by omega)
     have p4:=p3.1.put (fun _=>rfl) (i*4+3) (.int .u64 x.2.2.2) (by omega) (by omega)
     have a4:=hid ((((f.put_far r.out (i*4) (.int .i64 x.1)).put_far r.out (i*4+1) (.int .i64 x.2.1)).put_far r.out (i*4+2) (.int .i64 x.2.2.1)).put_far r.out (i*4+3) (.int .u64 x.2.2.2));have a5:=hid (((((F.out.trans s).put_new k.out (i*4) (.int .i64 x.1)).put_new k.out (i*4+1) (.int .i64 x.2.1)).put_new k.out (i*4+2) (.int .i64 x.2.2.1)).put_new k.out (i*4+3) (.int .u64 x.2.2.2));have E:Hid (RowK zrb 4 144 m ((((w3.setCell ⟨g,i*4,none⟩ (.int .i64 x.1)).setCell ⟨g,i*4+1,none⟩ (.int .i64 x.2.1)).setCell ⟨g,i*4+2,none⟩ (.int .i64 x.2.2.1)).setCell ⟨g,i*4+3,none⟩ (.int .u64 x.2.2.2)) g (j++[x])):=by
      refine p4.1.more x fun l u B=>?_
      rw[n];match l,B with
      |0,B=>cases B;exact((zou _ _ _ _ (by intro e;simp only[Addr.mk.injEq]at e;omega)).trans ((zou _ _ _ _ (by intro e;simp only[Addr.mk.injEq]at e;omega)).trans ((zou _ _ _ _ (by intro e;simp only[Addr.mk.injEq]at e;omega)).trans p1.2)))
      |1,B=>cases B;exact((zou _ _ _ _ (by intro e;simp only[Addr.mk.injEq]at e;omega)).trans ((zou _ _ _ _ (by intro e;simp only[Addr.mk.injEq]at e;omega)).trans p2.2))
      |2,B=>cases B;exact((zou _ _ _ _ (by intro e;simp only[Addr.mk.injEq]at e;omega)).trans p3.2)
      |3,B=>cases B;exact p4.2
     have a2:Hid (xk (j++[x]) (xh (zo6 zs) (m-(i+1)) u')=yz zs (zo6 zs) t):=by
      show _=_;rw[<-G,show m-(i+1)=m-i-1 by omega]
     have a0:Hid ((j++[x]).length=i+1):=by show _=_;rw[List.length_append,N.out];rfl
     have J:Hid (∀y∈j++[x],zrG y):=fun y hy=>by
      rcases List.mem_append.1 hy with h|h
      ·exact A.out y h
      ·simp only[zoD,zoA,or_false]at h;rw[h];exact L
     have a9:=a8.out;clear HF s f G R b Z N A d H F L p1 p2 p3 p4 n;go_wp2;go_roundw
     case rel=>exact⟨i+1,u',j++[x],zhs (by omega),hid a7,a0,J,a2,a4,a5,E⟩
     case measure=>simp[intOf];omega
   ·have a6:¬(i:Int)<(m:Int):=by omega
    have e3:m-i=0:=by omega
    have HE:Hid (ka p a c zs (PushsV w) (yz zs (zo6 zs) t) w (.returned (.slice (some ⟨g,0,none⟩) m m)) wr):=by
     show ka _ _ _ _ _ _ _ _ _;rw[<-Z.out,e3];have n:j.length=m:=by have h1:=N.out;have h2:=HI.out;omega
     have Q:=d.out;refine⟨F.out,_,rfl,⟨g,?_,k.out,?_,?_⟩,H.out⟩
     ·rw[List.append_nil,n]
     ·rw[List.append_nil,n];exact Q
     ·rw[List.append_nil];exact A.out
    clear Z N A d H F;go_wp2;go_ret;exact HE.out
theorem ztZ{p:Nat}{a:Option Addr}{c:Nat}{zs:List Int}{t:Nat}{w:World}(h:Rd p a c zs t w):
 Calls Tryz.prog 153 #[.pointer (some ⟨p,0,none⟩)] w (ka p a c zs (PushsV w) (yz zs (zo6 zs) t) w):=by
 have i:=hid (zsg h);clear h;go_enter Tryz.func153,Tryz.ntmps153
 go_wp2_with fail
 refine i.out.mono ?_;rintro e w2 ⟨d,b⟩;cases f:yz zs (zo6 zs) t with
 |error e=>
  rw[f]at b;obtain rfl:=b;exact yl (P:=Tryz.prog) (fn:=Tryz.f153) (by exact⟨d,rfl⟩) rfl
 |ok y=>
  obtain⟨l,u⟩:=y;rw[f]at b;obtain⟨v,rfl,j,g⟩:=b;have k:Hid (ka p a c zs (PushsV w) (yz zs (zo6 zs) t) w (.returned v) w2):=by show ka _ _ _ _ _ _ _ _ _;rw[f];exact⟨d,v,rfl,j,g⟩
  clear d j g f i;go_wp2;exact bodyPost_ret (v:=v) (by simp[results,Tryz.results153,go_sem]) rfl k.out
def zuK(w:World)(a:List Int)(w':World)(v:Value):Prop:=∃v',v=.agg #[v']/\IntsV w a w' v'
theorem zuz{p:Nat}{a:Option Addr}{c:Nat}{zs:List Int}{t:Nat}{w:World}(h:Rd p a c zs t w):
 Calls Tryz.prog 113 #[.pointer (some ⟨p,0,none⟩)] w (ka p a c zs (zuK w) (yz zs (ke zs) t) w):=by
 obtain⟨A,eW⟩:∃A,A=w.alloc (.cells #[.slice none 0 0] 53):=⟨_,rfl⟩;obtain⟨bx,ebx⟩:∃b,b=w.heap.size:=⟨_,rfl⟩;have l:Hid (RSt p a c zs 53 bx w t [.slice none 0 0] A):=by rw[eW,ebx];exact RSt.start h _ _
 have E:=hid (zp8 l.out.rd);have B:=hid eW;have C:=hid ebx;clear h eW ebx;go_enter Tryz.func113,Tryz.ntmps113
 go_wp2_with fail
 rw[<-B.out,<-C.out];clear B C;refine E.out.mono ?_;rintro e w2 ⟨k,d⟩;cases s:yz zs (ke zs) t with
 |error e=>
  rw[s]at d;obtain rfl:=d;exact yl (P:=Tryz.prog) (fn:=Tryz.f113) (by exact⟨l.out.rn.trans k,rfl⟩) rfl
 |ok y=>
  obtain⟨f,u⟩:=y;rw[s]at d;obtain⟨v,rfl,⟨g,rfl,F,j,q⟩,D⟩:=d;have m:=l.out.read k D;have H:=m.box.cell (i:=0) rfl;have z0:=m.box.fz 0;have I:=m.box.lt;have x:=m.put 0 (.slice (some ⟨g,0,none⟩) f.length f.length) rfl (fun n h=>by cases h)
  have r:g≠bx:=by have:=l.out.box.lt;omega
  have o:w.heap.size<=g:=zoz l.out.rn.size F;have G:Hid (ka p a c zs (zuK w) (yz zs (ke zs) t) w (.returned (.agg #[.slice (some ⟨g,0,none⟩) f.length f.length])) (w2.setCell ⟨bx,0,none⟩ (.slice (some ⟨g,0,none⟩) f.length f.length))):=by
   show ka _ _ _ _ _ _ _ _ _;rw[s];exact⟨x.rn,_,rfl,⟨_,rfl,g,rfl,o,(zop _ _ _ _ (by show g≠bx;exact r)).trans j,q⟩,x.rd⟩
  clear k D s E j q l m x F r o;go_wp2;exact bodyPost_ret (v:=.agg #[.slice (some ⟨g,0,none⟩) f.length f.length]) (by simp[results,Tryz.results113,go_sem, *]) rfl G.out
theorem RowK.blk{α :Type}{enc: α->List Value}{k:Nat}{T:TypeId}{m:Nat}{w w':World}{g:Nat}{b:List α}(h:RowK enc k T m w g b)(e:w'.heap[g]?=w.heap[g]?):RowK enc k T m w' g b:=by
 obtain⟨a,d,c⟩:=h;exact⟨a,e.trans d,c⟩
theorem RefsV.keep{w b w2:World}{c:List (Int × Int)}{v:Value}(h:RefsV w c b v)(hb:∀g,w.heap.size<=g->w2.heap[g]?=b.heap[g]?\/b.heap.size<=g):RefsV w c w2 v:=by
 obtain⟨g,e,d,f,hw⟩:=h;have j:g<b.heap.size:=f.lt;have hb:∀a,w.heap.size<=a->a=g->w2.heap[a]?=b.heap[a]?:=fun a i k=>(hb a i).resolve_right (by omega)
 exact⟨g,e,d,f.blk (hb g d rfl),hw⟩
theorem RefsV.low{w w0 a:World}{b:List (Int × Int)}{v:Value}(h:RefsV w b a v)(hb:w0.heap.size<=w.heap.size):RefsV w0 b a v:=by
 obtain⟨g,e,d,c⟩:=h;exact⟨g,e,zoz hb d,c⟩
theorem IntsV.keep{w b w2:World}{c:List Int}{v:Value}(h:IntsV w c b v)(hb:∀g,w.heap.size<=g->w2.heap[g]?=b.heap[g]?\/b.heap.size<=g):IntsV w c w2 v:=by
 obtain⟨g,e,d,f,hw⟩:=h;have j:g<b.heap.size:=(zoj.1 f).1;have hb:∀a,w.heap.size<=a->a=g->w2.heap[a]?=b.heap[a]?:=fun a i k=>(hb a i).resolve_right (by omega)
 exact⟨g,e,d,(hb g d rfl).trans f,hw⟩
theorem IntsV.low{w w0 a:World}{b:List Int}{v:Value}(h:IntsV w b a v)(hb:w0.heap.size<=w.heap.size):IntsV w0 b a v:=by
 obtain⟨g,e,d,c⟩:=h;exact⟨g,e,zoz hb d,c⟩
theorem NumsV.keep{w b w2:World}{c:List Int}{v:Value}(h:NumsV w c b v)(hb:∀g,w.heap.size<=g->w2.heap[g]?=b.heap[g]?\/b.heap.size<=g):NumsV w c w2 v:=by
 obtain⟨g,e,d,f,hw⟩:=h;have j:g<b.heap.size:=(zoj.1 f).1;have hb:∀a,w.heap.size<=a->a=g->w2.heap[a]?=b.heap[a]?:=fun a i k=>(hb a i).resolve_right (by omega)
 exact⟨g,e,d,(hb g d rfl).trans f,hw⟩
theorem NumsV.low{w w0 a:World}{b:List Int}{v:Value}(h:NumsV w b a v)(hb:w0.heap.size<=w.heap.size):NumsV w0 b a v:=by
 obtain⟨g,e,d,c⟩:=h;exact⟨g,e,zoz hb d,c⟩
theorem ko{p:Nat}{w a w2:World}(r:Rn p a w2)(b:p<w.heap.size):∀g,w.heap.size<=g->w2.heap[g]?=a.heap[g]?\/a.heap.size<=g:=fun g c=>by
 rcases Nat.lt_or_ge g a.heap.size with h|h
 ·exact .inl (r.block g h (by omega))
 ·exact .inr h
theorem zl{w a:World}{b:Nat}(hb:b<w.heap.size)(o:Nat)(v:Value):∀g,w.heap.size<=g->(a.setCell ⟨b,o,none⟩ v).heap[g]?=a.heap[g]?\/a.heap.size<=g:=fun g c=>.inl (zop _ _ _ _ (by show g≠b;omega))
structure TabX where
 kind : Int
 keys : List (Int × Int)
 acts : List Int
 cap : Int
 dflt : Int
 args : List Int
def zpz(zs:List Int)(t:Nat):Except (Int × Int) (TabX × Nat):=y7 (ke zs t) fun e u1=>y7 (yz zs (jp zs) u1) fun b u2=>y7 (yz zs (ke zs) u2) fun c u3=>y7 (ke zs u3) fun d u4=>y7 (ke zs u4) fun f u5=>y7 (yz zs (zo0 zs) u5) fun a u6=>.ok (⟨e,b,c,d,f,a⟩,u6)
def zvl(w:World)(x:TabX)(w':World)(v:Value):Prop:=∃c b a,v=.agg #[.int .i64 x.kind,c,b,.int .i64 x.cap,.int .i64 x.dflt,a]/\RefsV w x.keys w' c/\IntsV w x.acts w' b/\NumsV w x.args w' a/\(Lit.int .i64 x.kind).wf=true/\(Lit.int .i64 x.cap).wf=true/\(Lit.int .i64 x.dflt).wf=true
theorem zu3{p:Nat}{a:Option Addr}{c:Nat}{zs:List Int}{t:Nat}{w:World}(h:Rd p a c zs t w):
 Calls Tryz.prog 121 #[.pointer (some ⟨p,0,none⟩)] w (ka p a c zs (zvl w) (zpz zs t) w):=by
 obtain⟨m,eW⟩:∃m,m=w.alloc (.cells #[.int .i64 0,.slice none 0 0,.slice none 0 0,.int .i64 0,.int .i64 0,.slice none 0 0] 63):=⟨_,rfl⟩;obtain⟨bx,ebx⟩:∃b,b=w.heap.size:=⟨_,rfl⟩;have V:p<w.heap.size:=zog _ _ h.c0;have M:Hid (RSt p a c zs 63 bx w t [.int .i64 0,.slice none 0 0,.slice none 0 0,.int .i64 0,.int .i64 0,.slice none 0 0] m):=by rw[eW,ebx];exact RSt.start h _ _
 have d:Hid (bx<m.heap.size/\p<m.heap.size/\w.heap.size<=m.heap.size):=⟨M.out.box.lt,zom V M.out.rn.size,M.out.rn.size⟩;have a4:=hid (zpb M.out.rd);have EW:=hid eW;have EB:=hid ebx;clear h eW ebx V;go_enter Tryz.func121,Tryz.ntmps121
 go_wp2_with fail
 rw[<-EW.out,<-EB.out];clear EW EB;refine a4.out.mono ?_;rintro e w2 ⟨k,f⟩;cases l:ke zs t with
 |error e=>
  rw[l]at f;obtain rfl:=f;exact yl (P:=Tryz.prog) (fn:=Tryz.f121) (by unfold zpz;rw[l];exact⟨M.out.rn.trans k,rfl⟩) rfl
 |ok y=>
  obtain⟨A,u1⟩:=y;rw[l]at f;obtain⟨_,rfl,⟨rfl,a5⟩,f⟩:=f;have T0:=M.out.read k f;have b7:=hid a5;have b0:=T0.box.cell (i:=0) rfl;have z0:=T0.box.fz 0;have l0:=T0.box.lt;obtain⟨W3,eW3⟩:∃W,W=w2.setCell ⟨bx,0,none⟩ (.int .i64 A):=⟨_,rfl⟩;have b8:Hid (m.heap.size<=W3.heap.size):=by
   have D:m.heap.size<=w2.heap.size:=zoz (zos _) k.size;rw[eW3,zow];exact D
  have S1:Hid (RSt p a c zs 63 bx w u1 [.int .i64 A,.slice none 0 0,.slice none 0 0,.int .i64 0,.int .i64 0,.slice none 0 0] W3):=by rw[eW3];exact T0.put 0 _ rfl (fun n h=>by cases h)
  have L:=hid l;have Y:=hid eW3;have b6:=hid (zsV S1.out.rd);clear a4 k f l T0 eW3 M a5;go_wp2_with fail
  rw[<-Y.out];clear Y b0 z0 l0;refine b6.out.mono ?_;rintro e w4 ⟨k,f⟩;cases l:yz zs (jp zs) u1 with
  |error e=>
   rw[l]at f;obtain rfl:=f;exact yl (P:=Tryz.prog) (fn:=Tryz.f121) (by unfold zpz;rw[L.out];unfold y7;dsimp only;rw[l];exact⟨S1.out.rn.trans k,rfl⟩) rfl
  |ok y=>
   obtain⟨g,u2⟩:=y;rw[l]at f;obtain⟨_,rfl,⟨r,rfl,F⟩,f⟩:=f;have F:RefsV W3 g w4 (.slice (some ⟨r,0,none⟩) g.length g.length):=⟨r,rfl,F⟩;have N:=S1.out.read k f;have q:=hid (F.low (w0:=m) (by have:=S1.out.rn.size;have:=N.box.lt;first|exact zos _|exact b8.out))
   have b1:=N.box.cell (i:=1) rfl;have z1:=N.box.fz 1;have l1:=N.box.lt;obtain⟨W5,eW5⟩:∃W,W=w4.setCell ⟨bx,1,none⟩ (.slice (some ⟨r,0,none⟩) g.length g.length):=⟨_,rfl⟩;have Z:Hid (m.heap.size<=W5.heap.size):=by
    have D:m.heap.size<=w4.heap.size:=zoz b8.out k.size;rw[eW5,zow];exact D
   have S2:Hid (RSt p a c zs 63 bx w u2 [.int .i64 A,.slice (some ⟨r,0,none⟩) g.length g.length,.slice none 0 0,.int .i64 0,.int .i64 0,.slice none 0 0] W5):=by rw[eW5];exact N.put 1 _ rfl (fun n h=>by cases h)
   have q:Hid (RefsV m g W5 (.slice (some ⟨r,0,none⟩) g.length g.length)):=by rw[eW5];exact q.out.keep (zl d.out.1 _ _)
   have Q:=hid l;have a0:=hid eW5;have a9:=hid (zp8 S2.out.rd);clear b6 k f l N eW5 S1 F;go_wp2_with fail
   rw[<-a0.out];clear a0 b1 z1 l1;refine a9.out.mono ?_;rintro e w6 ⟨k,f⟩;cases l:yz zs (ke zs) u2 with
   |error e=>
    rw[l]at f;obtain rfl:=f;exact yl (P:=Tryz.prog) (fn:=Tryz.f121) (by unfold zpz;rw[L.out];unfold y7;dsimp only;rw[Q.out];dsimp only;rw[l];exact⟨S2.out.rn.trans k,rfl⟩) rfl
   |ok y=>
    obtain⟨j,u3⟩:=y;rw[l]at f;obtain⟨_,rfl,⟨s,rfl,G⟩,f⟩:=f;have G:IntsV W5 j w6 (.slice (some ⟨s,0,none⟩) j.length j.length):=⟨s,rfl,G⟩;have R:=S2.out.read k f;have q:=hid (q.out.keep (ko k d.out.2.1));have u:=hid (G.low (w0:=m) (by have:=S2.out.rn.size;have:=R.box.lt;first|exact zos _|exact Z.out))
    have b2:=R.box.cell (i:=2) rfl;have z2:=R.box.fz 2;have l2:=R.box.lt;obtain⟨W7,eW7⟩:∃W,W=w6.setCell ⟨bx,2,none⟩ (.slice (some ⟨s,0,none⟩) j.length j.length):=⟨_,rfl⟩;have c2:Hid (m.heap.size<=W7.heap.size):=by
     have D:m.heap.size<=w6.heap.size:=zoz Z.out k.size;rw[eW7,zow];exact D
    have S3:Hid (RSt p a c zs 63 bx w u3 [.int .i64 A,.slice (some ⟨r,0,none⟩) g.length g.length,.slice (some ⟨s,0,none⟩) j.length j.length,.int .i64 0,.int .i64 0,.slice none 0 0] W7):=by rw[eW7];exact R.put 2 _ rfl (fun n h=>by cases h)
    have q:Hid (RefsV m g W7 (.slice (some ⟨r,0,none⟩) g.length g.length)):=by rw[eW7];exact q.out.keep (zl d.out.1 _ _)
    have u:Hid (IntsV m j W7 (.slice (some ⟨s,0,none⟩) j.length j.length)):=by rw[eW7];exact u.out.keep (zl d.out.1 _ _)
    have Q3:=hid l;have a2:=hid eW7;have a6:=hid (zpb S3.out.rd);clear a9 k f l R eW7 S2 G;go_wp2_with fail
    rw[<-a2.out];clear a2 b2 z2 l2;refine a6.out.mono ?_;rintro e w8 ⟨k,f⟩;cases l:ke zs u3 with
    |error e=>
     rw[l]at f;obtain rfl:=f;exact yl (P:=Tryz.prog) (fn:=Tryz.f121) (by unfold zpz;rw[L.out];unfold y7;dsimp only;rw[Q.out];dsimp only;rw[Q3.out];dsimp only;rw[l];exact⟨S3.out.rn.trans k,rfl⟩) rfl
    |ok y=>
     obtain⟨C,u4⟩:=y;rw[l]at f;obtain⟨_,rfl,⟨rfl,U⟩,f⟩:=f;have T3:=S3.out.read k f;have q:=hid (q.out.keep (ko k d.out.2.1));have u:=hid (u.out.keep (ko k d.out.2.1));have T:=hid U;have b3:=T3.box.cell (i:=3) rfl;have z3:=T3.box.fz 3;have l3:=T3.box.lt;obtain⟨W9,eW9⟩:∃W,W=w8.setCell ⟨bx,3,none⟩ (.int .i64 C):=⟨_,rfl⟩;have c1:Hid (m.heap.size<=W9.heap.size):=by
      have D:m.heap.size<=w8.heap.size:=zoz c2.out k.size;rw[eW9,zow];exact D
     have S4:Hid (RSt p a c zs 63 bx w u4 [.int .i64 A,.slice (some ⟨r,0,none⟩) g.length g.length,.slice (some ⟨s,0,none⟩) j.length j.length,.int .i64 C,.int .i64 0,.slice none 0 0] W9):=by rw[eW9];exact T3.put 3 _ rfl (fun n h=>by cases h)
     have q:Hid (RefsV m g W9 (.slice (some ⟨r,0,none⟩) g.length g.length)):=by rw[eW9];exact q.out.keep (zl d.out.1 _ _)
     have u:Hid (IntsV m j W9 (.slice (some ⟨s,0,none⟩) j.length j.length)):=by rw[eW9];exact u.out.keep (zl d.out.1 _ _)
     have Q4:=hid l;have a8:=hid eW9;have a7:=hid (zpb S4.out.rd);clear a6 k f l T3 eW9 S3 U;go_wp2_with fail
     rw[<-a8.out];clear a8 b3 z3 l3;refine a7.out.mono ?_;rintro e a3 ⟨k,f⟩;cases l:ke zs u4 with
     |error e=>
      rw[l]at f;obtain rfl:=f;exact yl (P:=Tryz.prog) (fn:=Tryz.f121) (by unfold zpz;rw[L.out];unfold y7;dsimp only;rw[Q.out];dsimp only;rw[Q3.out];dsimp only;rw[Q4.out];dsimp only;rw[l];exact⟨S4.out.rn.trans k,rfl⟩) rfl
     |ok y=>
      obtain⟨E,u5⟩:=y;rw[l]at f;obtain⟨_,rfl,⟨rfl,b9⟩,f⟩:=f;have T4:=S4.out.read k f;have q:=hid (q.out.keep (ko k d.out.2.1));have u:=hid (u.out.keep (ko k d.out.2.1));have a1:=hid b9;have b4:=T4.box.cell (i:=4) rfl;have z4:=T4.box.fz 4;have l4:=T4.box.lt;obtain⟨W11,eW11⟩:∃W,W=a3.setCell ⟨bx,4,none⟩ (.int .i64 E):=⟨_,rfl⟩;have X:Hid (m.heap.size<=W11.heap.size):=by
       have D:m.heap.size<=a3.heap.size:=zoz c1.out k.size;rw[eW11,zow];exact D
      have S5:Hid (RSt p a c zs 63 bx w u5 [.int .i64 A,.slice (some ⟨r,0,none⟩) g.length g.length,.slice (some ⟨s,0,none⟩) j.length j.length,.int .i64 C,.int .i64 E,.slice none 0 0] W11):=by rw[eW11];exact T4.put 4 _ rfl (fun n h=>by cases h)
      have q:Hid (RefsV m g W11 (.slice (some ⟨r,0,none⟩) g.length g.length)):=by rw[eW11];exact q.out.keep (zl d.out.1 _ _)
      have u:Hid (IntsV m j W11 (.slice (some ⟨s,0,none⟩) j.length j.length)):=by rw[eW11];exact u.out.keep (zl d.out.1 _ _)
      have Q5:=hid l;have I:=hid eW11;have S:=hid (zsU S5.out.rd);clear a7 k f l T4 eW11 S4 b9;go_wp2_with fail
      rw[<-I.out];clear I b4 z4 l4;refine S.out.mono ?_;rintro e K ⟨k,f⟩;cases l:yz zs (zo0 zs) u5 with
      |error e=>
       rw[l]at f;obtain rfl:=f;exact yl (P:=Tryz.prog) (fn:=Tryz.f121) (by unfold zpz;rw[L.out];unfold y7;dsimp only;rw[Q.out];dsimp only;rw[Q3.out];dsimp only;rw[Q4.out];dsimp only;rw[Q5.out];dsimp only;rw[l];exact⟨S5.out.rn.trans k,rfl⟩) rfl
      |ok y=>
       obtain⟨o,u6⟩:=y;rw[l]at f;obtain⟨_,rfl,⟨B,rfl,H⟩,f⟩:=f;have H:NumsV W11 o K (.slice (some ⟨B,0,none⟩) o.length o.length):=⟨B,rfl,H⟩;have O:=S5.out.read k f;have q:=hid (q.out.keep (ko k d.out.2.1));have u:=hid (u.out.keep (ko k d.out.2.1));have K6:=hid (H.low (w0:=m) (by have:=S5.out.rn.size;have:=O.box.lt;first|exact zos _|exact X.out))
       have b5:=O.box.cell (i:=5) rfl;have z5:=O.box.fz 5;have l5:=O.box.lt;obtain⟨W13,eW13⟩:∃W,W=K.setCell ⟨bx,5,none⟩ (.slice (some ⟨B,0,none⟩) o.length o.length):=⟨_,rfl⟩;have c3:Hid (m.heap.size<=W13.heap.size):=by
        have D:m.heap.size<=K.heap.size:=zoz X.out k.size;rw[eW13,zow];exact D
       have x:Hid (RSt p a c zs 63 bx w u6 [.int .i64 A,.slice (some ⟨r,0,none⟩) g.length g.length,.slice (some ⟨s,0,none⟩) j.length j.length,.int .i64 C,.int .i64 E,.slice (some ⟨B,0,none⟩) o.length o.length] W13):=by rw[eW13];exact O.put 5 _ rfl (fun n h=>by cases h)
       have q:Hid (RefsV m g W13 (.slice (some ⟨r,0,none⟩) g.length g.length)):=by rw[eW13];exact q.out.keep (zl d.out.1 _ _)
       have u:Hid (IntsV m j W13 (.slice (some ⟨s,0,none⟩) j.length j.length)):=by rw[eW13];exact u.out.keep (zl d.out.1 _ _)
       have K6:Hid (NumsV m o W13 (.slice (some ⟨B,0,none⟩) o.length o.length)):=by rw[eW13];exact K6.out.keep (zl d.out.1 _ _)
       have Q6:=hid l;have J:=hid eW13;clear S k f l O eW13 S5 H;go_upto_region 7 with fail
       rw[<-J.out];clear J b5 z5 l5;have S7:=((((((x.out.put 0 (.int .i64 A) rfl (fun n h=>by cases h)).put 1 (.slice (some ⟨r,0,none⟩) g.length g.length) rfl (fun n h=>by cases h)).put 2 (.slice (some ⟨s,0,none⟩) j.length j.length) rfl (fun n h=>by cases h)).put 3 (.int .i64 C) rfl (fun n h=>by cases h)).put 4 (.int .i64 E) rfl (fun n h=>by cases h)).put 5 (.slice (some ⟨B,0,none⟩) o.length o.length) rfl (fun n h=>by cases h))
       have HE:Hid (ka p a c zs (zvl w) (zpz zs t) w (.returned (.agg #[.int .i64 A,.slice (some ⟨r,0,none⟩) g.length g.length,.slice (some ⟨s,0,none⟩) j.length j.length,.int .i64 C,.int .i64 E,.slice (some ⟨B,0,none⟩) o.length o.length])) ((((((W13.setCell ⟨bx,0,none⟩ (.int .i64 A)).setCell ⟨bx,1,none⟩ (.slice (some ⟨r,0,none⟩) g.length g.length)).setCell ⟨bx,2,none⟩ (.slice (some ⟨s,0,none⟩) j.length j.length)).setCell ⟨bx,3,none⟩ (.int .i64 C)).setCell ⟨bx,4,none⟩ (.int .i64 E)).setCell ⟨bx,5,none⟩ (.slice (some ⟨B,0,none⟩) o.length o.length))):=by
        show ka _ _ _ _ _ _ _ _ _;unfold zpz;rw[L.out];unfold y7;dsimp only;rw[Q.out];dsimp only;rw[Q3.out];dsimp only;rw[Q4.out];dsimp only;rw[Q5.out];dsimp only;rw[Q6.out];dsimp only;exact⟨S7.rn,_,rfl,⟨_,_,_,rfl,(((((((q.out.keep (zl d.out.1 0 (.int .i64 A))).keep (zl d.out.1 1 (.slice (some ⟨r,0,none⟩) g.length g.length))).keep (zl d.out.1 2 (.slice (some ⟨s,0,none⟩) j.length j.length))).keep (zl d.out.1 3 (.int .i64 C))).keep (zl d.out.1 4 (.int .i64 E))).keep (zl d.out.1 5 (.slice (some ⟨B,0,none⟩) o.length o.length))).low d.out.2.2),(((((((u.out.keep (zl d.out.1 0 (.int .i64 A))).keep (zl d.out.1 1 (.slice (some ⟨r,0,none⟩) g.length g.length))).keep (zl d.out.1 2 (.slice (some ⟨s,0,none⟩) j.length j.length))).keep (zl d.out.1 3 (.int .i64 C))).keep (zl d.out.1 4 (.int .i64 E))).keep (zl d.out.1 5 (.slice (some ⟨B,0,none⟩) o.length o.length))).low d.out.2.2),(((((((K6.out.keep (zl d.out.1 0 (.int .i64 A))).keep (zl d.out.1 1 (.slice (some ⟨r,0,none⟩) g.length g.length))).keep (zl d.out.1 2 (.slice (some ⟨s,0,none⟩) j.length j.length))).keep (zl d.out.1 3 (.int .i64 C))).keep (zl d.out.1 4 (.int .i64 E))).keep (zl d.out.1 5 (.slice (some ⟨B,0,none⟩) o.length o.length))).low d.out.2.2),b7.out,T.out,a1.out⟩,S7.rd⟩
       have b0:=x.out.box.cell (i:=0) rfl;have z0:=x.out.box.fz 0;have b1:=x.out.box.cell (i:=1) rfl;have z1:=x.out.box.fz 1;have b2:=x.out.box.cell (i:=2) rfl;have z2:=x.out.box.fz 2;have b3:=x.out.box.cell (i:=3) rfl;have z3:=x.out.box.fz 3;have b4:=x.out.box.cell (i:=4) rfl;have z4:=x.out.box.fz 4;have b5:=x.out.box.cell (i:=5) rfl;have z5:=x.out.box.fz 5;have l0:=x.out.box.lt;clear x S7 q u K6 L Q Q3 Q4 Q5 Q6 b7 T a1;go_wp2;exact bodyPost_ret (v:=.agg #[.int .i64 A,.slice (some ⟨r,0,none⟩) g.length g.length,.slice (some ⟨s,0,none⟩) j.length j.length,.int .i64 C,.int .i64 E,.slice (some ⟨B,0,none⟩) o.length o.length]) (by simp[results,Tryz.results121,go_sem, *]) rfl HE.out
theorem PushsV.keep{w a w2:World}{b:List (Int × Int × Int × Int)}{v:Value}(h:PushsV w b a v)(hb:∀g,w.heap.size<=g->w2.heap[g]?=a.heap[g]?\/a.heap.size<=g):PushsV w b w2 v:=by
 obtain⟨g,e,c,d,hw⟩:=h;have f:g<a.heap.size:=d.lt;exact⟨g,e,c,d.blk ((hb g c).resolve_right (by omega)),hw⟩
theorem PushsV.low{w w0 a:World}{b:List (Int × Int × Int × Int)}{v:Value}(h:PushsV w b a v)(hb:w0.heap.size<=w.heap.size):PushsV w0 b a v:=by
 obtain⟨g,e,d,c⟩:=h;exact⟨g,e,zoz hb d,c⟩
def TreeV(w:World)(e:Option (List (Int × Int × Int × Int)))(w':World)(v:Value):Prop:=match e with
 |none=>v=.slice none 0 0
 |some xs=>PushsV w xs w' v
structure NodeX where
 kind : Int
 n : Int
 e : Option (List (Int × Int × Int × Int))
 yes : Int
 no : Int
def zo7(zs:List Int)(t:Nat):Except (Int × Int) (NodeX × Nat):=y7 (ke zs t) fun a u1=>y7 (ke zs u1) fun c u2=>
 if a=3 then y7 (yz zs (zo6 zs) u2) fun b u3=>y7 (ke zs u3) fun d u4=>.ok (⟨a,0,some b,c,d⟩,u4)
 else if a=4 then y7 (ke zs u2) fun b u3=>y7 (ke zs u3) fun d u4=>.ok (⟨a,b,none,c,d⟩,u4)
 else y7 (ke zs u2) fun b u3=>.ok (⟨a,b,none,c,0⟩,u3)
def zsE(w:World)(x:NodeX)(w':World)(v:Value):Prop:=∃a,v=.agg #[.int .i64 x.kind,.int .i64 x.n,a,.int .i64 x.yes,.int .i64 x.no]/\TreeV w x.e w' a/\(Lit.int .i64 x.kind).wf=true/\(Lit.int .i64 x.n).wf=true/\(Lit.int .i64 x.yes).wf=true/\(Lit.int .i64 x.no).wf=true
structure DeedX where
 kind : Int
 h : Int
 f : Int
 head : Int
 e : Option (List (Int × Int × Int × Int))
def qc(zs:List Int)(t:Nat):Except (Int × Int) (DeedX × Nat):=y7 (ke zs t) fun a u1=>
 if a=1 then y7 (jp zs u1) fun r u2=>y7 (yz zs (zo6 zs) u2) fun c u3=>.ok (⟨a,r.1,r.2,0,some c⟩,u3)
 else if a=2 then y7 (ke zs u1) fun b u2=>.ok (⟨a,0,0,b,none⟩,u2)
 else if a=3 then y7 (ke zs u1) fun b u2=>.ok (⟨a,0,0,b,none⟩,u2)
 else if a=5 then y7 (yz zs (zo6 zs) u1) fun b u2=>.ok (⟨a,0,0,0,some b⟩,u2)
 else if a=6 then y7 (jp zs u1) fun r u2=>y7 (ke zs u2) fun c u3=>.ok (⟨a,r.1,r.2,c,none⟩,u3)
 else .ok (⟨a,0,0,0,none⟩,u1)
def zrc(w:World)(x:DeedX)(w':World)(v:Value):Prop:=∃a,v=.agg #[.int .i64 x.kind,.int .i64 x.h,.int .i64 x.f,.int .i64 x.head,a]/\TreeV w x.e w' a/\(Lit.int .i64 x.kind).wf=true/\(Lit.int .i64 x.h).wf=true/\(Lit.int .i64 x.f).wf=true/\(Lit.int .i64 x.head).wf=true
theorem zvm{p:Nat}{a:Option Addr}{c:Nat}{zs:List Int}{t:Nat}{w:World}(h:Rd p a c zs t w):
 Calls Tryz.prog 123 #[.pointer (some ⟨p,0,none⟩)] w (ka p a c zs (zsE w) (zo7 zs t) w):=by
 obtain⟨k,eW⟩:∃k,k=w.alloc (.cells #[.int .i64 0,.int .i64 0,.slice none 0 0,.int .i64 0,.int .i64 0] 65):=⟨_,rfl⟩;obtain⟨bx,ebx⟩:∃b,b=w.heap.size:=⟨_,rfl⟩;have a1:p<w.heap.size:=zog _ _ h.c0;have T:Hid (RSt p a c zs 65 bx w t [.int .i64 0,.int .i64 0,.slice none 0 0,.int .i64 0,.int .i64 0] k):=by rw[eW,ebx];exact RSt.start h _ _
 have s:Hid (bx<k.heap.size/\p<k.heap.size/\w.heap.size<=k.heap.size):=⟨T.out.box.lt,zom a1 T.out.rn.size,T.out.rn.size⟩;have a3:Hid (k.heap.size<=k.heap.size):=zos _;have a0:=hid (zpb T.out.rd);have E0:Hid (zo7 zs t=zo7 zs t):=rfl;have WZ:Hid ((Lit.int .i64 0).wf=true):=by show _=true;decide
 have EW:=hid eW;have EB:=hid ebx;clear h eW ebx a1;go_enter Tryz.func123,Tryz.ntmps123
 go_wp2_with fail
 rw[<-EW.out,<-EB.out];clear EW EB;refine a0.out.mono ?_;rintro e w1 ⟨j,d⟩;cases g:ke zs t with
 |error e=>
  rw[g]at d;obtain rfl:=d;exact yl (P:=Tryz.prog) (fn:=Tryz.f123) (by unfold zo7;rw[g];exact⟨T.out.rn.trans j,rfl⟩) rfl
 |ok y=>
  obtain⟨m,u1⟩:=y;rw[g]at d;obtain⟨_,rfl,⟨rfl,hw⟩,d⟩:=d;have T0:=T.out.read j d;have S:=hid hw;have B:=T0.box.cell (i:=0) rfl;have z0:=T0.box.fz 0;have C:=T0.box.lt;obtain⟨V1,eV1⟩:∃W,W=(w1.setCell ⟨bx,0,none⟩ (.int .i64 m)):=⟨_,rfl⟩;have a5:Hid (k.heap.size<=V1.heap.size):=by
   have F:k.heap.size<=w1.heap.size:=zoz a3.out j.size;show k.heap.size<=V1.heap.size;rw[eV1];simpa[World.setCell]using F
  have S1:Hid (RSt p a c zs 65 bx w u1 [.int .i64 m,.int .i64 0,.slice none 0 0,.int .i64 0,.int .i64 0] V1):=by rw[eV1];exact(T0.put 0 (.int .i64 m) rfl (fun n h=>by cases h))
  have J:=hid g;have r:=hid eV1;clear a0 j d g T0 eV1 T hw;have a2:=hid (zpb S1.out.rd);go_wp2_with fail
  rw[<-r.out];clear r B z0 C;refine a2.out.mono ?_;rintro e w2 ⟨j,d⟩;cases g:ke zs u1 with
  |error e=>
   rw[g]at d;obtain rfl:=d;exact yl (P:=Tryz.prog) (fn:=Tryz.f123) (by unfold zo7;rw[J.out];unfold y7;dsimp only;rw[g];exact⟨S1.out.rn.trans j,rfl⟩) rfl
  |ok y=>
   obtain⟨q,u2⟩:=y;rw[g]at d;obtain⟨_,rfl,⟨rfl,hw⟩,d⟩:=d;have T1:=S1.out.read j d;have X:=hid hw;have B:=T1.box.cell (i:=3) rfl;have z0:=T1.box.fz 3;have C:=T1.box.lt;obtain⟨V2,eV2⟩:∃W,W=(w2.setCell ⟨bx,3,none⟩ (.int .i64 q)):=⟨_,rfl⟩;have M:Hid (k.heap.size<=V2.heap.size):=by
    have F:k.heap.size<=w2.heap.size:=zoz a5.out j.size;show k.heap.size<=V2.heap.size;rw[eV2];simpa[World.setCell]using F
   have D:Hid (RSt p a c zs 65 bx w u2 [.int .i64 m,.int .i64 0,.slice none 0 0,.int .i64 q,.int .i64 0] V2):=by rw[eV2];exact(T1.put 3 (.int .i64 q) rfl (fun n h=>by cases h))
   have O:=hid g;have r:=hid eV2;clear a2 j d g T1 eV2 S1 hw;go_upto_region 3 with fail
   rw[<-r.out];clear r B z0 C;have c0:=D.out.box.cell (i:=0) rfl;have lc:=D.out.box.lt;by_cases Q:m=3
   ·have U:=hid Q;have V:=c0;rw[Q]at V;clear c0 Q;have x:=hid (ztZ D.out.rd);go_wp2_with fail
    refine x.out.mono ?_;rintro e L ⟨j,d⟩;cases g:yz zs (zo6 zs) u2 with
    |error e=>
     rw[g]at d;obtain rfl:=d;exact yl (P:=Tryz.prog) (fn:=Tryz.f123) (by unfold zo7;rw[J.out];unfold y7;dsimp only;rw[O.out];dsimp only;rw[if_pos U.out];rw[g];exact⟨D.out.rn.trans j,rfl⟩) rfl
    |ok y=>
     obtain⟨f,u3⟩:=y;rw[g]at d;obtain⟨_,rfl,⟨E,rfl,hv⟩,d⟩:=d;have hv:PushsV V2 f L (.slice (some ⟨E,0,none⟩) f.length f.length):=⟨E,rfl,hv⟩;have A:=D.out.read j d;have N:=hid (hv.low (w0:=k) M.out);have B:=A.box.cell (i:=2) rfl;have z0:=A.box.fz 2;have C:=A.box.lt;obtain⟨V3,eV3⟩:∃W,W=(L.setCell ⟨bx,2,none⟩ (.slice (some ⟨E,0,none⟩) f.length f.length)):=⟨_,rfl⟩;have K:Hid (k.heap.size<=V3.heap.size):=by
      have F:k.heap.size<=L.heap.size:=zoz M.out j.size;show k.heap.size<=V3.heap.size;rw[eV3];simpa[World.setCell]using F
     have o:Hid (RSt p a c zs 65 bx w u3 [.int .i64 m,.int .i64 0,.slice (some ⟨E,0,none⟩) f.length f.length,.int .i64 q,.int .i64 0] V3):=by rw[eV3];exact(A.put 2 (.slice (some ⟨E,0,none⟩) f.length f.length) rfl (fun n h=>by cases h))
     have N:Hid (PushsV k f V3 (.slice (some ⟨E,0,none⟩) f.length f.length)):=by rw[eV3];exact(N.out.keep (zl s.out.1 2 (.slice (some ⟨E,0,none⟩) f.length f.length)))
     have Y:=hid g;have r:=hid eV3;clear x j d g A eV3 D hv;have I:=hid (zpb o.out.rd);go_wp2_with fail
     rw[<-r.out];clear r B z0 C;refine I.out.mono ?_;rintro e w4 ⟨j,d⟩;cases g:ke zs u3 with
     |error e=>
      rw[g]at d;obtain rfl:=d;exact yl (P:=Tryz.prog) (fn:=Tryz.f123) (by unfold zo7;rw[J.out];unfold y7;dsimp only;rw[O.out];dsimp only;rw[if_pos U.out];rw[Y.out];dsimp only;rw[g];exact⟨o.out.rn.trans j,rfl⟩) rfl
     |ok y=>
      obtain⟨u,u4⟩:=y;rw[g]at d;obtain⟨_,rfl,⟨rfl,hw⟩,d⟩:=d;have G:=o.out.read j d;have N:=hid (N.out.keep (ko j s.out.2.1));have R:=hid hw;have B:=G.box.cell (i:=4) rfl;have z0:=G.box.fz 4;have C:=G.box.lt;obtain⟨V4,eV4⟩:∃W,W=(w4.setCell ⟨bx,4,none⟩ (.int .i64 u)):=⟨_,rfl⟩;have a4:Hid (k.heap.size<=V4.heap.size):=by
       have F:k.heap.size<=w4.heap.size:=zoz K.out j.size;show k.heap.size<=V4.heap.size;rw[eV4];simpa[World.setCell]using F
      have l:Hid (RSt p a c zs 65 bx w u4 [.int .i64 m,.int .i64 0,.slice (some ⟨E,0,none⟩) f.length f.length,.int .i64 q,.int .i64 u] V4):=by rw[eV4];exact(G.put 4 (.int .i64 u) rfl (fun n h=>by cases h))
      have N:Hid (PushsV k f V4 (.slice (some ⟨E,0,none⟩) f.length f.length)):=by rw[eV4];exact(N.out.keep (zl s.out.1 4 (.int .i64 u)))
      have Q4:=hid g;have r:=hid eV4;clear I j d g G eV4 o hw;go_upto_region 11 with fail
      rw[<-r.out];clear r B z0 C;have H:=(((((l.out.put 0 (.int .i64 m) rfl (fun n h=>by cases h)).put 1 (.int .i64 0) rfl (fun n h=>by cases h)).put 2 (.slice (some ⟨E,0,none⟩) f.length f.length) rfl (fun n h=>by cases h)).put 3 (.int .i64 q) rfl (fun n h=>by cases h)).put 4 (.int .i64 u) rfl (fun n h=>by cases h))
      have HE:Hid (ka p a c zs (zsE w) (zo7 zs t) w (.returned (.agg #[.int .i64 m,.int .i64 0,.slice (some ⟨E,0,none⟩) f.length f.length,.int .i64 q,.int .i64 u])) (((((V4.setCell ⟨bx,0,none⟩ (.int .i64 m)).setCell ⟨bx,1,none⟩ (.int .i64 0)).setCell ⟨bx,2,none⟩ (.slice (some ⟨E,0,none⟩) f.length f.length)).setCell ⟨bx,3,none⟩ (.int .i64 q)).setCell ⟨bx,4,none⟩ (.int .i64 u))):=by
       show ka _ _ _ _ _ _ _ _ _;unfold zo7;rw[J.out];unfold y7;dsimp only;rw[O.out];dsimp only;rw[if_pos U.out];rw[Y.out];dsimp only;rw[Q4.out];dsimp only;exact⟨H.rn,_,rfl,⟨_,rfl,((((((N.out.keep (zl s.out.1 0 (.int .i64 m))).keep (zl s.out.1 1 (.int .i64 0))).keep (zl s.out.1 2 (.slice (some ⟨E,0,none⟩) f.length f.length))).keep (zl s.out.1 3 (.int .i64 q))).keep (zl s.out.1 4 (.int .i64 u))).low s.out.2.2),S.out,WZ.out,X.out,R.out⟩,H.rd⟩
      have B:=l.out.box.cell (i:=0) rfl;have z0:=l.out.box.fz 0;have b1:=l.out.box.cell (i:=1) rfl;have z1:=l.out.box.fz 1;have b2:=l.out.box.cell (i:=2) rfl;have z2:=l.out.box.fz 2;have b3:=l.out.box.cell (i:=3) rfl;have z3:=l.out.box.fz 3;have b4:=l.out.box.cell (i:=4) rfl;have z4:=l.out.box.fz 4;have C:=l.out.box.lt;clear H l V lc N;go_wp2;exact bodyPost_ret (v:=.agg #[.int .i64 m,.int .i64 0,.slice (some ⟨E,0,none⟩) f.length f.length,.int .i64 q,.int .i64 u]) (by simp[results,Tryz.results123,go_sem, *]) rfl HE.out
   have d3:(m==3)=false:=by simpa using Q
   by_cases h4:m=4
   ·have U:=hid h4;have V:=c0;rw[h4]at V;have N3:=hid Q;clear c0 h4 Q d3;have x:=hid (zpb D.out.rd);go_wp2_with fail
    refine x.out.mono ?_;rintro e L ⟨j,d⟩;cases g:ke zs u2 with
    |error e=>
     rw[g]at d;obtain rfl:=d;exact yl (P:=Tryz.prog) (fn:=Tryz.f123) (by unfold zo7;rw[J.out];unfold y7;dsimp only;rw[O.out];dsimp only;rw[if_neg N3.out,if_pos U.out];rw[g];exact⟨D.out.rn.trans j,rfl⟩) rfl
    |ok y=>
     obtain⟨f,u3⟩:=y;rw[g]at d;obtain⟨_,rfl,⟨rfl,hw⟩,d⟩:=d;have A:=D.out.read j d;have Z:=hid hw;have B:=A.box.cell (i:=1) rfl;have z0:=A.box.fz 1;have C:=A.box.lt;obtain⟨V3,eV3⟩:∃W,W=(L.setCell ⟨bx,1,none⟩ (.int .i64 f)):=⟨_,rfl⟩;have K:Hid (k.heap.size<=V3.heap.size):=by
      have F:k.heap.size<=L.heap.size:=zoz M.out j.size;show k.heap.size<=V3.heap.size;rw[eV3];simpa[World.setCell]using F
     have o:Hid (RSt p a c zs 65 bx w u3 [.int .i64 m,.int .i64 f,.slice none 0 0,.int .i64 q,.int .i64 0] V3):=by rw[eV3];exact(A.put 1 (.int .i64 f) rfl (fun n h=>by cases h))
     have Y:=hid g;have r:=hid eV3;clear x j d g A eV3 D hw;have I:=hid (zpb o.out.rd);go_wp2_with fail
     rw[<-r.out];clear r B z0 C;refine I.out.mono ?_;rintro e w4 ⟨j,d⟩;cases g:ke zs u3 with
     |error e=>
      rw[g]at d;obtain rfl:=d;exact yl (P:=Tryz.prog) (fn:=Tryz.f123) (by unfold zo7;rw[J.out];unfold y7;dsimp only;rw[O.out];dsimp only;rw[if_neg N3.out,if_pos U.out];rw[Y.out];dsimp only;rw[g];exact⟨o.out.rn.trans j,rfl⟩) rfl
     |ok y=>
      obtain⟨u,u4⟩:=y;rw[g]at d;obtain⟨_,rfl,⟨rfl,hw⟩,d⟩:=d;have G:=o.out.read j d;have R:=hid hw;have B:=G.box.cell (i:=4) rfl;have z0:=G.box.fz 4;have C:=G.box.lt;obtain⟨V4,eV4⟩:∃W,W=(w4.setCell ⟨bx,4,none⟩ (.int .i64 u)):=⟨_,rfl⟩;have a4:Hid (k.heap.size<=V4.heap.size):=by
       have F:k.heap.size<=w4.heap.size:=zoz K.out j.size;show k.heap.size<=V4.heap.size;rw[eV4];simpa[World.setCell]using F
      have l:Hid (RSt p a c zs 65 bx w u4 [.int .i64 m,.int .i64 f,.slice none 0 0,.int .i64 q,.int .i64 u] V4):=by rw[eV4];exact(G.put 4 (.int .i64 u) rfl (fun n h=>by cases h))
      have Q4:=hid g;have r:=hid eV4;clear I j d g G eV4 o hw;go_upto_region 11 with fail
      rw[<-r.out];clear r B z0 C;have H:=(((((l.out.put 0 (.int .i64 m) rfl (fun n h=>by cases h)).put 1 (.int .i64 f) rfl (fun n h=>by cases h)).put 2 (.slice none 0 0) rfl (fun n h=>by cases h)).put 3 (.int .i64 q) rfl (fun n h=>by cases h)).put 4 (.int .i64 u) rfl (fun n h=>by cases h))
      have HE:Hid (ka p a c zs (zsE w) (zo7 zs t) w (.returned (.agg #[.int .i64 m,.int .i64 f,.slice none 0 0,.int .i64 q,.int .i64 u])) (((((V4.setCell ⟨bx,0,none⟩ (.int .i64 m)).setCell ⟨bx,1,none⟩ (.int .i64 f)).setCell ⟨bx,2,none⟩ (.slice none 0 0)).setCell ⟨bx,3,none⟩ (.int .i64 q)).setCell ⟨bx,4,none⟩ (.int .i64 u))):=by
       show ka _ _ _ _ _ _ _ _ _;unfold zo7;rw[J.out];unfold y7;dsimp only;rw[O.out];dsimp only;rw[if_neg N3.out,if_pos U.out];rw[Y.out];dsimp only;rw[Q4.out];dsimp only;exact⟨H.rn,_,rfl,⟨_,rfl,rfl,S.out,Z.out,X.out,R.out⟩,H.rd⟩
      have B:=l.out.box.cell (i:=0) rfl;have z0:=l.out.box.fz 0;have b1:=l.out.box.cell (i:=1) rfl;have z1:=l.out.box.fz 1;have b2:=l.out.box.cell (i:=2) rfl;have z2:=l.out.box.fz 2;have b3:=l.out.box.cell (i:=3) rfl;have z3:=l.out.box.fz 3;have b4:=l.out.box.cell (i:=4) rfl;have z4:=l.out.box.fz 4;have C:=l.out.box.lt;clear H l V lc;go_wp2;exact bodyPost_ret (v:=.agg #[.int .i64 m,.int .i64 f,.slice none 0 0,.int .i64 q,.int .i64 u]) (by simp[results,Tryz.results123,go_sem, *]) rfl HE.out
   have d4:(m==4)=false:=by simpa using h4
   have N3:=hid Q;have N4:=hid h4;have V:=c0;clear c0 Q h4;have x:=hid (zpb D.out.rd);go_wp2_with fail
   refine x.out.mono ?_;rintro e L ⟨j,d⟩;cases g:ke zs u2 with
   |error e=>
    rw[g]at d;obtain rfl:=d;exact yl (P:=Tryz.prog) (fn:=Tryz.f123) (by unfold zo7;rw[J.out];unfold y7;dsimp only;rw[O.out];dsimp only;rw[if_neg N3.out,if_neg N4.out];rw[g];exact⟨D.out.rn.trans j,rfl⟩) rfl
   |ok y=>
    obtain⟨f,u3⟩:=y;rw[g]at d;obtain⟨_,rfl,⟨rfl,hw⟩,d⟩:=d;have A:=D.out.read j d;have Z:=hid hw;have B:=A.box.cell (i:=1) rfl;have z0:=A.box.fz 1;have C:=A.box.lt;obtain⟨V3,eV3⟩:∃W,W=(L.setCell ⟨bx,1,none⟩ (.int .i64 f)):=⟨_,rfl⟩;have K:Hid (k.heap.size<=V3.heap.size):=by
     have F:k.heap.size<=L.heap.size:=zoz M.out j.size;show k.heap.size<=V3.heap.size;rw[eV3];simpa[World.setCell]using F
    have o:Hid (RSt p a c zs 65 bx w u3 [.int .i64 m,.int .i64 f,.slice none 0 0,.int .i64 q,.int .i64 0] V3):=by rw[eV3];exact(A.put 1 (.int .i64 f) rfl (fun n h=>by cases h))
    have Y:=hid g;have r:=hid eV3;clear x j d g A eV3 D hw;go_upto_region 11 with fail
    rw[<-r.out];clear r B z0 C;have H:=(((((o.out.put 0 (.int .i64 m) rfl (fun n h=>by cases h)).put 1 (.int .i64 f) rfl (fun n h=>by cases h)).put 2 (.slice none 0 0) rfl (fun n h=>by cases h)).put 3 (.int .i64 q) rfl (fun n h=>by cases h)).put 4 (.int .i64 0) rfl (fun n h=>by cases h))
    have HE:Hid (ka p a c zs (zsE w) (zo7 zs t) w (.returned (.agg #[.int .i64 m,.int .i64 f,.slice none 0 0,.int .i64 q,.int .i64 0])) (((((V3.setCell ⟨bx,0,none⟩ (.int .i64 m)).setCell ⟨bx,1,none⟩ (.int .i64 f)).setCell ⟨bx,2,none⟩ (.slice none 0 0)).setCell ⟨bx,3,none⟩ (.int .i64 q)).setCell ⟨bx,4,none⟩ (.int .i64 0))):=by
     show ka _ _ _ _ _ _ _ _ _;unfold zo7;rw[J.out];unfold y7;dsimp only;rw[O.out];dsimp only;rw[if_neg N3.out,if_neg N4.out];rw[Y.out];dsimp only;exact⟨H.rn,_,rfl,⟨_,rfl,rfl,S.out,Z.out,X.out,WZ.out⟩,H.rd⟩
    have B:=o.out.box.cell (i:=0) rfl;have z0:=o.out.box.fz 0;have b1:=o.out.box.cell (i:=1) rfl;have z1:=o.out.box.fz 1;have b2:=o.out.box.cell (i:=2) rfl;have z2:=o.out.box.fz 2;have b3:=o.out.box.cell (i:=3) rfl;have z3:=o.out.box.fz 3;have b4:=o.out.box.cell (i:=4) rfl;have z4:=o.out.box.fz 4;have C:=o.out.box.lt;clear H o V lc;go_wp2;exact bodyPost_ret (v:=.agg #[.int .i64 m,.int .i64 f,.slice none 0 0,.int .i64 q,.int .i64 0]) (by simp[results,Tryz.results123,go_sem, *]) rfl HE.out
theorem zvn{p:Nat}{a:Option Addr}{c:Nat}{zs:List Int}{t:Nat}{w:World}(h:Rd p a c zs t w):
 Calls Tryz.prog 150 #[.pointer (some ⟨p,0,none⟩)] w (ka p a c zs (zrc w) (qc zs t) w):=by
 obtain⟨q,eW⟩:∃q,q=w.alloc (.cells #[.int .i64 0,.int .i64 0,.int .i64 0,.int .i64 0,.slice none 0 0] 59):=⟨_,rfl⟩;obtain⟨bx,ebx⟩:∃b,b=w.heap.size:=⟨_,rfl⟩;have a1:p<w.heap.size:=zog _ _ h.c0;have S0:Hid (RSt p a c zs 59 bx w t [.int .i64 0,.int .i64 0,.int .i64 0,.int .i64 0,.slice none 0 0] q):=by rw[eW,ebx];exact RSt.start h _ _
 have A:Hid (bx<q.heap.size/\p<q.heap.size/\w.heap.size<=q.heap.size):=⟨S0.out.box.lt,zom a1 S0.out.rn.size,S0.out.rn.size⟩;have a2:Hid (q.heap.size<=q.heap.size):=zos _;have a0:=hid (zpb S0.out.rd);have E0:Hid (qc zs t=qc zs t):=rfl;have U:Hid ((Lit.int .i64 0).wf=true):=by show _=true;decide
 have EW:=hid eW;have EB:=hid ebx;clear h eW ebx a1;go_enter Tryz.func150,Tryz.ntmps150
 go_wp2_with fail
 rw[<-EW.out,<-EB.out];clear EW EB;refine a0.out.mono ?_;rintro e w1 ⟨l,d⟩;cases g:ke zs t with
 |error e=>
  rw[g]at d;obtain rfl:=d;exact yl (P:=Tryz.prog) (fn:=Tryz.f150) (by unfold qc;rw[g];exact⟨S0.out.rn.trans l,rfl⟩) rfl
 |ok y=>
  obtain⟨j,u1⟩:=y;rw[g]at d;obtain⟨_,rfl,⟨rfl,hw⟩,d⟩:=d;have T0:=S0.out.read l d;have N:=hid hw;have F:=T0.box.cell (i:=0) rfl;have z0:=T0.box.fz 0;have G:=T0.box.lt;obtain⟨V1,eV1⟩:∃W,W=(w1.setCell ⟨bx,0,none⟩ (.int .i64 j)):=⟨_,rfl⟩;have O:Hid (q.heap.size<=V1.heap.size):=by
   have x:q.heap.size<=w1.heap.size:=zoz a2.out l.size;show q.heap.size<=V1.heap.size;rw[eV1];simpa[World.setCell]using x
  have r:Hid (RSt p a c zs 59 bx w u1 [.int .i64 j,.int .i64 0,.int .i64 0,.int .i64 0,.slice none 0 0] V1):=by rw[eV1];exact(T0.put 0 (.int .i64 j) rfl (fun n h=>by cases h))
  have M:=hid g;have D:=hid eV1;clear a0 l d g T0 eV1 S0 hw;go_upto_region 2 with fail
  rw[<-D.out];clear D F z0 G;have c0:=r.out.box.cell (i:=0) rfl;have lc:=r.out.box.lt;by_cases x:j=1
  ·have I:=hid x;have J:=c0;rw[x]at J;clear c0 x;have B:=hid (zra r.out.rd);go_wp2_with fail
   refine B.out.mono ?_;rintro e w2 ⟨l,d⟩;cases g:jp zs u1 with
   |error e=>
    rw[g]at d;obtain rfl:=d;exact yl (P:=Tryz.prog) (fn:=Tryz.f150) (by unfold qc;rw[M.out];unfold y7;dsimp only;rw[if_pos I.out];rw[g];exact⟨r.out.rn.trans l,rfl⟩) rfl
   |ok y=>
    obtain⟨⟨o,m⟩,u2⟩:=y;rw[g]at d;obtain⟨_,rfl,⟨rfl,hw⟩,d⟩:=d;dsimp only at hw;have s:=r.out.read l d;have H:=hid hw;have F:=s.box.cell (i:=1) rfl;have z0:=s.box.fz 1;have b1:=s.box.cell (i:=2) rfl;have z1:=s.box.fz 2;have G:=s.box.lt;obtain⟨V2,eV2⟩:∃W,W=((w2.setCell ⟨bx,1,none⟩ (.int .i64 o)).setCell ⟨bx,2,none⟩ (.int .i64 m)):=⟨_,rfl⟩;have K:Hid (q.heap.size<=V2.heap.size):=by
     have x:q.heap.size<=w2.heap.size:=zoz O.out l.size;show q.heap.size<=V2.heap.size;rw[eV2];simpa[World.setCell]using x
    have f:Hid (RSt p a c zs 59 bx w u2 [.int .i64 j,.int .i64 o,.int .i64 m,.int .i64 0,.slice none 0 0] V2):=by rw[eV2];exact((s.put 1 (.int .i64 o) rfl (fun n h=>by cases h)).put 2 (.int .i64 m) rfl (fun n h=>by cases h))
    have X:=hid g;have D:=hid eV2;clear B l d g s eV2 r hw;have V:=hid (ztZ f.out.rd);go_wp2_with fail
    rw[<-D.out];clear D F z0 b1 z1 G;refine V.out.mono ?_;rintro e w3 ⟨l,d⟩;cases g:yz zs (zo6 zs) u2 with
    |error e=>
     rw[g]at d;obtain rfl:=d;exact yl (P:=Tryz.prog) (fn:=Tryz.f150) (by unfold qc;rw[M.out];unfold y7;dsimp only;rw[if_pos I.out];rw[X.out];dsimp only;rw[g];exact⟨f.out.rn.trans l,rfl⟩) rfl
    |ok y=>
     obtain⟨u,u3⟩:=y;rw[g]at d;obtain⟨_,rfl,⟨Q,rfl,hv⟩,d⟩:=d;have hv:PushsV V2 u w3 (.slice (some ⟨Q,0,none⟩) u.length u.length):=⟨Q,rfl,hv⟩;have Z:=f.out.read l d;have K3:=hid (hv.low (w0:=q) K.out);have F:=Z.box.cell (i:=4) rfl;have z0:=Z.box.fz 4;have G:=Z.box.lt;obtain⟨V3,eV3⟩:∃W,W=(w3.setCell ⟨bx,4,none⟩ (.slice (some ⟨Q,0,none⟩) u.length u.length)):=⟨_,rfl⟩;have a3:Hid (q.heap.size<=V3.heap.size):=by
      have x:q.heap.size<=w3.heap.size:=zoz K.out l.size;show q.heap.size<=V3.heap.size;rw[eV3];simpa[World.setCell]using x
     have C:Hid (RSt p a c zs 59 bx w u3 [.int .i64 j,.int .i64 o,.int .i64 m,.int .i64 0,.slice (some ⟨Q,0,none⟩) u.length u.length] V3):=by rw[eV3];exact(Z.put 4 (.slice (some ⟨Q,0,none⟩) u.length u.length) rfl (fun n h=>by cases h))
     have K3:Hid (PushsV q u V3 (.slice (some ⟨Q,0,none⟩) u.length u.length)):=by rw[eV3];exact(K3.out.keep (zl A.out.1 4 (.slice (some ⟨Q,0,none⟩) u.length u.length)))
     have Q3:=hid g;have D:=hid eV3;clear V l d g Z eV3 f hv;go_upto_region 14 with fail
     rw[<-D.out];clear D F z0 G;have E:=(((((C.out.put 0 (.int .i64 j) rfl (fun n h=>by cases h)).put 1 (.int .i64 o) rfl (fun n h=>by cases h)).put 2 (.int .i64 m) rfl (fun n h=>by cases h)).put 3 (.int .i64 0) rfl (fun n h=>by cases h)).put 4 (.slice (some ⟨Q,0,none⟩) u.length u.length) rfl (fun n h=>by cases h))
     have T:Hid (ka p a c zs (zrc w) (qc zs t) w (.returned (.agg #[.int .i64 j,.int .i64 o,.int .i64 m,.int .i64 0,.slice (some ⟨Q,0,none⟩) u.length u.length])) (((((V3.setCell ⟨bx,0,none⟩ (.int .i64 j)).setCell ⟨bx,1,none⟩ (.int .i64 o)).setCell ⟨bx,2,none⟩ (.int .i64 m)).setCell ⟨bx,3,none⟩ (.int .i64 0)).setCell ⟨bx,4,none⟩ (.slice (some ⟨Q,0,none⟩) u.length u.length))):=by
      show ka _ _ _ _ _ _ _ _ _;unfold qc;rw[M.out];unfold y7;dsimp only;rw[if_pos I.out];rw[X.out];dsimp only;rw[Q3.out];dsimp only;exact⟨E.rn,_,rfl,⟨_,rfl,((((((K3.out.keep (zl A.out.1 0 (.int .i64 j))).keep (zl A.out.1 1 (.int .i64 o))).keep (zl A.out.1 2 (.int .i64 m))).keep (zl A.out.1 3 (.int .i64 0))).keep (zl A.out.1 4 (.slice (some ⟨Q,0,none⟩) u.length u.length))).low A.out.2.2),N.out,H.out.1,H.out.2,U.out⟩,E.rd⟩
     have F:=C.out.box.cell (i:=0) rfl;have z0:=C.out.box.fz 0;have b1:=C.out.box.cell (i:=1) rfl;have z1:=C.out.box.fz 1;have b2:=C.out.box.cell (i:=2) rfl;have z2:=C.out.box.fz 2;have b3:=C.out.box.cell (i:=3) rfl;have z3:=C.out.box.fz 3;have b4:=C.out.box.cell (i:=4) rfl;have z4:=C.out.box.fz 4;have G:=C.out.box.lt;clear E C J lc K3;go_wp2;exact bodyPost_ret (v:=.agg #[.int .i64 j,.int .i64 o,.int .i64 m,.int .i64 0,.slice (some ⟨Q,0,none⟩) u.length u.length]) (by simp[results,Tryz.results150,go_sem, *]) rfl T.out
  have d1:(j==1)=false:=by simpa using x
  by_cases R:j=2
  ·have I:=hid R;have J:=c0;rw[R]at J;have L:=hid x;clear c0 R x d1;have B:=hid (zpb r.out.rd);go_wp2_with fail
   refine B.out.mono ?_;rintro e w2 ⟨l,d⟩;cases g:ke zs u1 with
   |error e=>
    rw[g]at d;obtain rfl:=d;exact yl (P:=Tryz.prog) (fn:=Tryz.f150) (by unfold qc;rw[M.out];unfold y7;dsimp only;rw[if_neg L.out,if_pos I.out];rw[g];exact⟨r.out.rn.trans l,rfl⟩) rfl
   |ok y=>
    obtain⟨k,u2⟩:=y;rw[g]at d;obtain⟨_,rfl,⟨rfl,hw⟩,d⟩:=d;have s:=r.out.read l d;have H:=hid hw;have F:=s.box.cell (i:=3) rfl;have z0:=s.box.fz 3;have G:=s.box.lt;obtain⟨V2,eV2⟩:∃W,W=(w2.setCell ⟨bx,3,none⟩ (.int .i64 k)):=⟨_,rfl⟩;have K:Hid (q.heap.size<=V2.heap.size):=by
     have x:q.heap.size<=w2.heap.size:=zoz O.out l.size;show q.heap.size<=V2.heap.size;rw[eV2];simpa[World.setCell]using x
    have f:Hid (RSt p a c zs 59 bx w u2 [.int .i64 j,.int .i64 0,.int .i64 0,.int .i64 k,.slice none 0 0] V2):=by rw[eV2];exact(s.put 3 (.int .i64 k) rfl (fun n h=>by cases h))
    have X:=hid g;have D:=hid eV2;clear B l d g s eV2 r hw;go_upto_region 14 with fail
    rw[<-D.out];clear D F z0 G;have E:=(((((f.out.put 0 (.int .i64 j) rfl (fun n h=>by cases h)).put 1 (.int .i64 0) rfl (fun n h=>by cases h)).put 2 (.int .i64 0) rfl (fun n h=>by cases h)).put 3 (.int .i64 k) rfl (fun n h=>by cases h)).put 4 (.slice none 0 0) rfl (fun n h=>by cases h))
    have T:Hid (ka p a c zs (zrc w) (qc zs t) w (.returned (.agg #[.int .i64 j,.int .i64 0,.int .i64 0,.int .i64 k,.slice none 0 0])) (((((V2.setCell ⟨bx,0,none⟩ (.int .i64 j)).setCell ⟨bx,1,none⟩ (.int .i64 0)).setCell ⟨bx,2,none⟩ (.int .i64 0)).setCell ⟨bx,3,none⟩ (.int .i64 k)).setCell ⟨bx,4,none⟩ (.slice none 0 0))):=by
     show ka _ _ _ _ _ _ _ _ _;unfold qc;rw[M.out];unfold y7;dsimp only;rw[if_neg L.out,if_pos I.out];rw[X.out];dsimp only;exact⟨E.rn,_,rfl,⟨_,rfl,rfl,N.out,U.out,U.out,H.out⟩,E.rd⟩
    have F:=f.out.box.cell (i:=0) rfl;have z0:=f.out.box.fz 0;have b1:=f.out.box.cell (i:=1) rfl;have z1:=f.out.box.fz 1;have b2:=f.out.box.cell (i:=2) rfl;have z2:=f.out.box.fz 2;have b3:=f.out.box.cell (i:=3) rfl;have z3:=f.out.box.fz 3;have b4:=f.out.box.cell (i:=4) rfl;have z4:=f.out.box.fz 4;have G:=f.out.box.lt;clear E f J lc;go_wp2;exact bodyPost_ret (v:=.agg #[.int .i64 j,.int .i64 0,.int .i64 0,.int .i64 k,.slice none 0 0]) (by simp[results,Tryz.results150,go_sem, *]) rfl T.out
  have d2:(j==2)=false:=by simpa using R
  by_cases h3:j=3
  ·have I:=hid h3;have J:=c0;rw[h3]at J;have L:=hid x;have Y:=hid R;clear c0 h3 x d1 R d2;have B:=hid (zpb r.out.rd);go_wp2_with fail
   refine B.out.mono ?_;rintro e w2 ⟨l,d⟩;cases g:ke zs u1 with
   |error e=>
    rw[g]at d;obtain rfl:=d;exact yl (P:=Tryz.prog) (fn:=Tryz.f150) (by unfold qc;rw[M.out];unfold y7;dsimp only;rw[if_neg L.out,if_neg Y.out,if_pos I.out];rw[g];exact⟨r.out.rn.trans l,rfl⟩) rfl
   |ok y=>
    obtain⟨k,u2⟩:=y;rw[g]at d;obtain⟨_,rfl,⟨rfl,hw⟩,d⟩:=d;have s:=r.out.read l d;have H:=hid hw;have F:=s.box.cell (i:=3) rfl;have z0:=s.box.fz 3;have G:=s.box.lt;obtain⟨V2,eV2⟩:∃W,W=(w2.setCell ⟨bx,3,none⟩ (.int .i64 k)):=⟨_,rfl⟩;have K:Hid (q.heap.size<=V2.heap.size):=by
     have x:q.heap.size<=w2.heap.size:=zoz O.out l.size;show q.heap.size<=V2.heap.size;rw[eV2];simpa[World.setCell]using x
    have f:Hid (RSt p a c zs 59 bx w u2 [.int .i64 j,.int .i64 0,.int .i64 0,.int .i64 k,.slice none 0 0] V2):=by rw[eV2];exact(s.put 3 (.int .i64 k) rfl (fun n h=>by cases h))
    have X:=hid g;have D:=hid eV2;clear B l d g s eV2 r hw;go_upto_region 14 with fail
    rw[<-D.out];clear D F z0 G;have E:=(((((f.out.put 0 (.int .i64 j) rfl (fun n h=>by cases h)).put 1 (.int .i64 0) rfl (fun n h=>by cases h)).put 2 (.int .i64 0) rfl (fun n h=>by cases h)).put 3 (.int .i64 k) rfl (fun n h=>by cases h)).put 4 (.slice none 0 0) rfl (fun n h=>by cases h))
    have T:Hid (ka p a c zs (zrc w) (qc zs t) w (.returned (.agg #[.int .i64 j,.int .i64 0,.int .i64 0,.int .i64 k,.slice none 0 0])) (((((V2.setCell ⟨bx,0,none⟩ (.int .i64 j)).setCell ⟨bx,1,none⟩ (.int .i64 0)).setCell ⟨bx,2,none⟩ (.int .i64 0)).setCell ⟨bx,3,none⟩ (.int .i64 k)).setCell ⟨bx,4,none⟩ (.slice none 0 0))):=by
     show ka _ _ _ _ _ _ _ _ _;unfold qc;rw[M.out];unfold y7;dsimp only;rw[if_neg L.out,if_neg Y.out,if_pos I.out];rw[X.out];dsimp only;exact⟨E.rn,_,rfl,⟨_,rfl,rfl,N.out,U.out,U.out,H.out⟩,E.rd⟩
    have F:=f.out.box.cell (i:=0) rfl;have z0:=f.out.box.fz 0;have b1:=f.out.box.cell (i:=1) rfl;have z1:=f.out.box.fz 1;have b2:=f.out.box.cell (i:=2) rfl;have z2:=f.out.box.fz 2;have b3:=f.out.box.cell (i:=3) rfl;have z3:=f.out.box.fz 3;have b4:=f.out.box.cell (i:=4) rfl;have z4:=f.out.box.fz 4;have G:=f.out.box.lt;clear E f J lc;go_wp2;exact bodyPost_ret (v:=.agg #[.int .i64 j,.int .i64 0,.int .i64 0,.int .i64 k,.slice none 0 0]) (by simp[results,Tryz.results150,go_sem, *]) rfl T.out
  have d3:(j==3)=false:=by simpa using h3
  by_cases h5:j=5
  ·have I:=hid h5;have J:=c0;rw[h5]at J;have L:=hid x;have Y:=hid R;have N3:=hid h3;clear c0 h5 x d1 R d2 h3 d3;have B:=hid (ztZ r.out.rd);go_wp2_with fail
   refine B.out.mono ?_;rintro e w2 ⟨l,d⟩;cases g:yz zs (zo6 zs) u1 with
   |error e=>
    rw[g]at d;obtain rfl:=d;exact yl (P:=Tryz.prog) (fn:=Tryz.f150) (by unfold qc;rw[M.out];unfold y7;dsimp only;rw[if_neg L.out,if_neg Y.out,if_neg N3.out,if_pos I.out];rw[g];exact⟨r.out.rn.trans l,rfl⟩) rfl
   |ok y=>
    obtain⟨k,u2⟩:=y;rw[g]at d;obtain⟨_,rfl,⟨S,rfl,hv⟩,d⟩:=d;have hv:PushsV V1 k w2 (.slice (some ⟨S,0,none⟩) k.length k.length):=⟨S,rfl,hv⟩;have s:=r.out.read l d;have K2:=hid (hv.low (w0:=q) O.out);have F:=s.box.cell (i:=4) rfl;have z0:=s.box.fz 4;have G:=s.box.lt;obtain⟨V2,eV2⟩:∃W,W=(w2.setCell ⟨bx,4,none⟩ (.slice (some ⟨S,0,none⟩) k.length k.length)):=⟨_,rfl⟩;have K:Hid (q.heap.size<=V2.heap.size):=by
     have x:q.heap.size<=w2.heap.size:=zoz O.out l.size;show q.heap.size<=V2.heap.size;rw[eV2];simpa[World.setCell]using x
    have f:Hid (RSt p a c zs 59 bx w u2 [.int .i64 j,.int .i64 0,.int .i64 0,.int .i64 0,.slice (some ⟨S,0,none⟩) k.length k.length] V2):=by rw[eV2];exact(s.put 4 (.slice (some ⟨S,0,none⟩) k.length k.length) rfl (fun n h=>by cases h))
    have K2:Hid (PushsV q k V2 (.slice (some ⟨S,0,none⟩) k.length k.length)):=by rw[eV2];exact(K2.out.keep (zl A.out.1 4 (.slice (some ⟨S,0,none⟩) k.length k.length)))
    have X:=hid g;have D:=hid eV2;clear B l d g s eV2 r hv;go_upto_region 14 with fail
    rw[<-D.out];clear D F z0 G;have E:=(((((f.out.put 0 (.int .i64 j) rfl (fun n h=>by cases h)).put 1 (.int .i64 0) rfl (fun n h=>by cases h)).put 2 (.int .i64 0) rfl (fun n h=>by cases h)).put 3 (.int .i64 0) rfl (fun n h=>by cases h)).put 4 (.slice (some ⟨S,0,none⟩) k.length k.length) rfl (fun n h=>by cases h))
    have T:Hid (ka p a c zs (zrc w) (qc zs t) w (.returned (.agg #[.int .i64 j,.int .i64 0,.int .i64 0,.int .i64 0,.slice (some ⟨S,0,none⟩) k.length k.length])) (((((V2.setCell ⟨bx,0,none⟩ (.int .i64 j)).setCell ⟨bx,1,none⟩ (.int .i64 0)).setCell ⟨bx,2,none⟩ (.int .i64 0)).setCell ⟨bx,3,none⟩ (.int .i64 0)).setCell ⟨bx,4,none⟩ (.slice (some ⟨S,0,none⟩) k.length k.length))):=by
     show ka _ _ _ _ _ _ _ _ _;unfold qc;rw[M.out];unfold y7;dsimp only;rw[if_neg L.out,if_neg Y.out,if_neg N3.out,if_pos I.out];rw[X.out];dsimp only;exact⟨E.rn,_,rfl,⟨_,rfl,((((((K2.out.keep (zl A.out.1 0 (.int .i64 j))).keep (zl A.out.1 1 (.int .i64 0))).keep (zl A.out.1 2 (.int .i64 0))).keep (zl A.out.1 3 (.int .i64 0))).keep (zl A.out.1 4 (.slice (some ⟨S,0,none⟩) k.length k.length))).low A.out.2.2),N.out,U.out,U.out,U.out⟩,E.rd⟩
    have F:=f.out.box.cell (i:=0) rfl;have z0:=f.out.box.fz 0;have b1:=f.out.box.cell (i:=1) rfl;have z1:=f.out.box.fz 1;have b2:=f.out.box.cell (i:=2) rfl;have z2:=f.out.box.fz 2;have b3:=f.out.box.cell (i:=3) rfl;have z3:=f.out.box.fz 3;have b4:=f.out.box.cell (i:=4) rfl;have z4:=f.out.box.fz 4;have G:=f.out.box.lt;clear E f J lc K2;go_wp2;exact bodyPost_ret (v:=.agg #[.int .i64 j,.int .i64 0,.int .i64 0,.int .i64 0,.slice (some ⟨S,0,none⟩) k.length k.length]) (by simp[results,Tryz.results150,go_sem, *]) rfl T.out
  have d5:(j==5)=false:=by simpa using h5
  by_cases h6:j=6
  ·have I:=hid h6;have J:=c0;rw[h6]at J;have L:=hid x;have Y:=hid R;have N3:=hid h3;have N5:=hid h5;clear c0 h6 x d1 R d2 h3 d3 h5 d5;have B:=hid (zra r.out.rd);go_wp2_with fail
   refine B.out.mono ?_;rintro e w2 ⟨l,d⟩;cases g:jp zs u1 with
   |error e=>
    rw[g]at d;obtain rfl:=d;exact yl (P:=Tryz.prog) (fn:=Tryz.f150) (by unfold qc;rw[M.out];unfold y7;dsimp only;rw[if_neg L.out,if_neg Y.out,if_neg N3.out,if_neg N5.out,if_pos I.out];rw[g];exact⟨r.out.rn.trans l,rfl⟩) rfl
   |ok y=>
    obtain⟨⟨o,m⟩,u2⟩:=y;rw[g]at d;obtain⟨_,rfl,⟨rfl,hw⟩,d⟩:=d;dsimp only at hw;have s:=r.out.read l d;have H:=hid hw;have F:=s.box.cell (i:=1) rfl;have z0:=s.box.fz 1;have b1:=s.box.cell (i:=2) rfl;have z1:=s.box.fz 2;have G:=s.box.lt;obtain⟨V2,eV2⟩:∃W,W=((w2.setCell ⟨bx,1,none⟩ (.int .i64 o)).setCell ⟨bx,2,none⟩ (.int .i64 m)):=⟨_,rfl⟩;have K:Hid (q.heap.size<=V2.heap.size):=by
     have x:q.heap.size<=w2.heap.size:=zoz O.out l.size;show q.heap.size<=V2.heap.size;rw[eV2];simpa[World.setCell]using x
    have f:Hid (RSt p a c zs 59 bx w u2 [.int .i64 j,.int .i64 o,.int .i64 m,.int .i64 0,.slice none 0 0] V2):=by rw[eV2];exact((s.put 1 (.int .i64 o) rfl (fun n h=>by cases h)).put 2 (.int .i64 m) rfl (fun n h=>by cases h))
    have X:=hid g;have D:=hid eV2;clear B l d g s eV2 r hw;have V:=hid (zpb f.out.rd);go_wp2_with fail
    rw[<-D.out];clear D F z0 b1 z1 G;refine V.out.mono ?_;rintro e w3 ⟨l,d⟩;cases g:ke zs u2 with
    |error e=>
     rw[g]at d;obtain rfl:=d;exact yl (P:=Tryz.prog) (fn:=Tryz.f150) (by unfold qc;rw[M.out];unfold y7;dsimp only;rw[if_neg L.out,if_neg Y.out,if_neg N3.out,if_neg N5.out,if_pos I.out];rw[X.out];dsimp only;rw[g];exact⟨f.out.rn.trans l,rfl⟩) rfl
    |ok y=>
     obtain⟨u,u3⟩:=y;rw[g]at d;obtain⟨_,rfl,⟨rfl,hw⟩,d⟩:=d;have Z:=f.out.read l d;have a4:=hid hw;have F:=Z.box.cell (i:=3) rfl;have z0:=Z.box.fz 3;have G:=Z.box.lt;obtain⟨V3,eV3⟩:∃W,W=(w3.setCell ⟨bx,3,none⟩ (.int .i64 u)):=⟨_,rfl⟩;have a3:Hid (q.heap.size<=V3.heap.size):=by
      have x:q.heap.size<=w3.heap.size:=zoz K.out l.size;show q.heap.size<=V3.heap.size;rw[eV3];simpa[World.setCell]using x
     have C:Hid (RSt p a c zs 59 bx w u3 [.int .i64 j,.int .i64 o,.int .i64 m,.int .i64 u,.slice none 0 0] V3):=by rw[eV3];exact(Z.put 3 (.int .i64 u) rfl (fun n h=>by cases h))
     have Q3:=hid g;have D:=hid eV3;clear V l d g Z eV3 f hw;go_upto_region 14 with fail
     rw[<-D.out];clear D F z0 G;have E:=(((((C.out.put 0 (.int .i64 j) rfl (fun n h=>by cases h)).put 1 (.int .i64 o) rfl (fun n h=>by cases h)).put 2 (.int .i64 m) rfl (fun n h=>by cases h)).put 3 (.int .i64 u) rfl (fun n h=>by cases h)).put 4 (.slice none 0 0) rfl (fun n h=>by cases h))
     have T:Hid (ka p a c zs (zrc w) (qc zs t) w (.returned (.agg #[.int .i64 j,.int .i64 o,.int .i64 m,.int .i64 u,.slice none 0 0])) (((((V3.setCell ⟨bx,0,none⟩ (.int .i64 j)).setCell ⟨bx,1,none⟩ (.int .i64 o)).setCell ⟨bx,2,none⟩ (.int .i64 m)).setCell ⟨bx,3,none⟩ (.int .i64 u)).setCell ⟨bx,4,none⟩ (.slice none 0 0))):=by
      show ka _ _ _ _ _ _ _ _ _;unfold qc;rw[M.out];unfold y7;dsimp only;rw[if_neg L.out,if_neg Y.out,if_neg N3.out,if_neg N5.out,if_pos I.out];rw[X.out];dsimp only;rw[Q3.out];dsimp only;exact⟨E.rn,_,rfl,⟨_,rfl,rfl,N.out,H.out.1,H.out.2,a4.out⟩,E.rd⟩
     have F:=C.out.box.cell (i:=0) rfl;have z0:=C.out.box.fz 0;have b1:=C.out.box.cell (i:=1) rfl;have z1:=C.out.box.fz 1;have b2:=C.out.box.cell (i:=2) rfl;have z2:=C.out.box.fz 2;have b3:=C.out.box.cell (i:=3) rfl;have z3:=C.out.box.fz 3;have b4:=C.out.box.cell (i:=4) rfl;have z4:=C.out.box.fz 4;have G:=C.out.box.lt;clear E C J lc;go_wp2;exact bodyPost_ret (v:=.agg #[.int .i64 j,.int .i64 o,.int .i64 m,.int .i64 u,.slice none 0 0]) (by simp[results,Tryz.results150,go_sem, *]) rfl T.out
  have d6:(j==6)=false:=by simpa using h6
  have L:=hid x;have Y:=hid R;have N3:=hid h3;have N5:=hid h5;have N6:=hid h6;have J:=c0;clear c0 x R h3 h5 h6;go_upto_region 14 with fail
  have E:=(((((r.out.put 0 (.int .i64 j) rfl (fun n h=>by cases h)).put 1 (.int .i64 0) rfl (fun n h=>by cases h)).put 2 (.int .i64 0) rfl (fun n h=>by cases h)).put 3 (.int .i64 0) rfl (fun n h=>by cases h)).put 4 (.slice none 0 0) rfl (fun n h=>by cases h))
  have T:Hid (ka p a c zs (zrc w) (qc zs t) w (.returned (.agg #[.int .i64 j,.int .i64 0,.int .i64 0,.int .i64 0,.slice none 0 0])) (((((V1.setCell ⟨bx,0,none⟩ (.int .i64 j)).setCell ⟨bx,1,none⟩ (.int .i64 0)).setCell ⟨bx,2,none⟩ (.int .i64 0)).setCell ⟨bx,3,none⟩ (.int .i64 0)).setCell ⟨bx,4,none⟩ (.slice none 0 0))):=by
   show ka _ _ _ _ _ _ _ _ _;unfold qc;rw[M.out];unfold y7;dsimp only;rw[if_neg L.out,if_neg Y.out,if_neg N3.out,if_neg N5.out,if_neg N6.out];exact⟨E.rn,_,rfl,⟨_,rfl,rfl,N.out,U.out,U.out,U.out⟩,E.rd⟩
  have F:=r.out.box.cell (i:=0) rfl;have z0:=r.out.box.fz 0;have b1:=r.out.box.cell (i:=1) rfl;have z1:=r.out.box.fz 1;have b2:=r.out.box.cell (i:=2) rfl;have z2:=r.out.box.fz 2;have b3:=r.out.box.cell (i:=3) rfl;have z3:=r.out.box.fz 3;have b4:=r.out.box.cell (i:=4) rfl;have z4:=r.out.box.fz 4;have G:=r.out.box.lt;clear E r J lc;go_wp2;exact bodyPost_ret (v:=.agg #[.int .i64 j,.int .i64 0,.int .i64 0,.int .i64 0,.slice none 0 0]) (by simp[results,Tryz.results150,go_sem, *]) rfl T.out
theorem TreeV.keep{w a w2:World}{e:Option (List (Int × Int × Int × Int))}{v:Value}(h:TreeV w e a v)(hb:∀g,w.heap.size<=g->w2.heap[g]?=a.heap[g]?\/a.heap.size<=g):TreeV w e w2 v:=by
 cases e with
 |none=>exact h
 |some xs=>exact PushsV.keep h hb
theorem TreeV.low{w w0 a:World}{e:Option (List (Int × Int × Int × Int))}{v:Value}(h:TreeV w e a v)(hb:w0.heap.size<=w.heap.size):TreeV w0 e a v:=by
 cases e with
 |none=>exact h
 |some xs=>exact PushsV.low h hb
theorem TreeV.sl{w a:World}{e:Option (List (Int × Int × Int × Int))}{v:Value}(h:TreeV w e a v):∃b l c,v=.slice b l c:=by
 cases e with
 |none=>exact⟨_,_,_,h⟩
 |some xs=>obtain⟨g,e,_⟩:=h;exact⟨_,_,_,e⟩
theorem RefsV.sl{w d:World}{a:List (Int × Int)}{v:Value}(h:RefsV w a d v):∃b l c,v=.slice b l c:=by
 obtain⟨g,e,_⟩:=h;exact⟨_,_,_,e⟩
theorem IntsV.sl{w d:World}{a:List Int}{v:Value}(h:IntsV w a d v):∃b l c,v=.slice b l c:=by
 obtain⟨g,e,_⟩:=h;exact⟨_,_,_,e⟩
theorem NumsV.sl{w d:World}{a:List Int}{v:Value}(h:NumsV w a d v):∃b l c,v=.slice b l c:=by
 obtain⟨g,e,_⟩:=h;exact⟨_,_,_,e⟩
theorem Tryz.infoNodeR:(Tryz.prog.info? 65).map (fun i=>(i.zero,i.size,i.bytes))=some (some (.agg #[.int .i64 0,.int .i64 0,.slice none 0 0,.int .i64 0,.int .i64 0]),5,56):=by kernel_rfl
def zqF(y:NodeX × Value):List Value:=[.int .i64 y.1.kind,.int .i64 y.1.n,y.2,.int .i64 y.1.yes,.int .i64 y.1.no]
def NodeP(w:World)(y:NodeX × Value)(w':World):Prop:=TreeV w y.1.e w' y.2/\(Lit.int .i64 y.1.kind).wf=true/\(Lit.int .i64 y.1.n).wf=true/\(Lit.int .i64 y.1.yes).wf=true/\(Lit.int .i64 y.1.no).wf=true
theorem NodeP.keep{w a w2:World}{y:NodeX × Value}(h:NodeP w y a)(hb:∀g,w.heap.size<=g->w2.heap[g]?=a.heap[g]?\/a.heap.size<=g):NodeP w y w2:=by
 obtain⟨c,b⟩:=h;exact⟨c.keep hb,b⟩
theorem NodeP.low{w w0 a:World}{y:NodeX × Value}(h:NodeP w y a)(hb:w0.heap.size<=w.heap.size):NodeP w0 y a:=by
 obtain⟨c,b⟩:=h;exact⟨c.low hb,b⟩
def NodesV(w:World)(a:List NodeX)(w':World)(v:Value):Prop:=∃g,∃b:List (NodeX × Value),v=.slice (some ⟨g,0,none⟩) a.length a.length/\w.heap.size<=g/\b.map (·.1)=a/\RowK zqF 5 65 a.length w' g b/\∀y∈b,NodeP w y w'
theorem zsh{p:Nat}{a:Option Addr}{c:Nat}{zs:List Int}{t:Nat}{w:World}(h:Rd p a c zs t w):
 Calls Tryz.prog 122 #[.pointer (some ⟨p,0,none⟩),.func (.func 123) #[.pointer (some ⟨p,0,none⟩)] #[]] w (ka p a c zs (NodesV w) (yz zs (zo7 zs) t) w):=by
 have HP:=hid (zp2 h);clear h;go_enter Tryz.func122,Tryz.ntmps122
 go_wp2_with fail
 refine HP.out.mono ?_;rintro e Y ⟨hn,hr⟩;cases T:zpl zs t with
 |error e=>
  have e1:yz zs (zo7 zs) t=.error e:=by unfold yz;rw[T]
  rw[T]at hr;obtain rfl:=hr;exact yl (P:=Tryz.prog) (fn:=Tryz.f122) (by rw[e1];exact⟨hn,rfl⟩) rfl
 |ok x=>
  obtain⟨m,t1⟩:=x;have e1:yz zs (zo7 zs) t=xh (zo7 zs) m t1:=by unfold yz;rw[T]
  rw[T]at hr;obtain⟨_,rfl,⟨rfl,hm⟩,H⟩:=hr;obtain⟨i0,hi,X,V,U⟩:=info_parts Tryz.infoNodeR;have K:m<=100000:=zoz hm H.few;have a9:∀W:World,(Instr.makeSlice 27 (.int .i64 (m:Int)) (.int .i64 (m:Int))).run Tryz.prog W=.ok (.slice (some ⟨W.heap.size,0,none⟩) m m) (W.alloc (.cells (madeCells #[.int .i64 0,.int .i64 0,.slice none 0 0,.int .i64 0,.int .i64 0] (m*5)) 65)):=fun W=>by
   have h:=run_make (P:=Tryz.prog) W 27 65 i0 _ Tryz.underlying27 hi X .i64 .i64 (m:Int) (m:Int) (by omega) (by omega) (by rw[U];omega) (by omega)
   rw[show((m:Int)).toNat=m by omega,V]at h
   exact h
  obtain⟨A,hW⟩:∃A,A=Y.alloc (.cells (madeCells #[.int .i64 0,.int .i64 0,.slice none 0 0,.int .i64 0,.int .i64 0] (m*5)) 65):=⟨_,rfl⟩;obtain⟨g,hg⟩:∃g,g=Y.heap.size:=⟨_,rfl⟩;have b2:Below Y.heap.size Y A:=by rw[hW];exact ze (zof _ _)
  have R0:RowK zqF 5 65 m A g []:=by
   rw[hW,hg];exact RowK.new zqF 5 _ m Y _ (by simp[madeCells])
  have Q:=hid (H.step b2);have J:=hid (hn.trans (Rn.of b2));have M:p<g:=by rw[hg];exact zog _ _ H.c0
  have s:Hid (w.heap.size<=g):=by show w.heap.size<=g;rw[hg];exact hn.size
  have C:Hid (p<g):=M;have a5:Hid (w.heap.size<=A.heap.size):=J.out.size;have b1:Hid (g≠p):=by show g≠p;omega
  have d:=hid R0;have G:=hid (R0.lt);have a4:Hid (p<A.heap.size):=Nat.lt_trans M R0.lt;have EW:=hid hW;have EG:=hid hg;have E1:=hid e1;have a8:=hid K;clear HP T H hn e1 hm hi X V U hW hg b2 R0 M K;go_wp2;rw[<-EW.out,<-EG.out];clear EW EG a9;go_loopw [12,6] (fun q _ wr=>∃(i u:Nat) (B:List (NodeX × Value)),q=.int .i64 (i:Int)/\Hid (i<=m)/\Hid (B.length=i)/\Hid (∀y∈B,NodeP A y wr)/\Hid (A.heap.size<=wr.heap.size)/\Hid (xk (B.map (·.1)) (xh (zo7 zs) (m-i) u)=yz zs (zo7 zs) t)/\Hid (Rd p a c zs u wr)/\Hid (Rn p w wr)/\Hid (RowK zqF 5 65 m wr g B)) (fun q _ _=>m-(intOf q).toNat)
  case atStart=>
   refine⟨0,t1,[],rfl,zon _,rfl,fun x hx=>(by simp at hx),zos _,?_,Q,J,d⟩
   show xk [] (xh (zo7 zs) m t1)=_;rw[E1.out];cases xh (zo7 zs) m t1 with
   |error e=>rfl
   |ok y=>rfl
  case round=>
   obtain⟨i,u,B,rfl,HI,Z,I,HS,HL,Q,J,d⟩:=hrel;by_cases a2:i<m
   ·have b3:(i:Int)<(m:Int):=by omega
    have HF:=hid (zvm Q.out);go_wp2_with fail
    refine HF.out.mono ?_;rintro e N ⟨r,f⟩;have O:=HL.out;rw[show m-i=(m-i-1)+1 by omega]at O
    cases hq:zo7 zs u with
    |error e=>
     rw[zo5 _ _ _ _ e hq]at O;rw[hq]at f;obtain rfl:=f;exact yl (P:=Tryz.prog) (fn:=Tryz.f122) (by rw[<-O];exact⟨J.out.trans r,rfl⟩) rfl
    |ok y=>
     obtain⟨x,u'⟩:=y;rw[zo4 _ _ _ _ x u' hq]at O;rw[hq]at f;obtain⟨_,rfl,⟨b4,rfl,D⟩,f⟩:=f;have D:NodeP wr (x,b4) N:=D;obtain⟨j,k,c0,rfl⟩:=D.1.sl;have b:=d.out.rn r b1.out;have F:=Z.out;have hb:i*5+5<=m*5:=by omega
     obtain⟨o0,k0⟩:=b.some (o:=i*5) (by omega)
     obtain⟨o1,k1⟩:=b.some (o:=i*5+1) (by omega)
     obtain⟨o2,k2⟩:=b.some (o:=i*5+2) (by omega)
     obtain⟨o3,k3⟩:=b.some (o:=i*5+3) (by omega)
     obtain⟨o4,k4⟩:=b.some (o:=i*5+4) (by omega)
     have z0:=b.fz (i*5);have z1:=b.fz (i*5+1);have z2:=b.fz (i*5+2);have z3:=b.fz (i*5+3);have z4:=b.fz (i*5+4);have kl:=b.lt;have p1:=b.put (fun _=>rfl) (i*5) (.int .i64 x.kind) (by omega) (by omega)
     have p2:=p1.1.put (fun _=>rfl) (i*5+1) (.int .i64 x.n) (by omega) (by omega)
     have p3:=p2.1.put (fun _=>rfl) (i*5+2) (.slice j k c0) (by omega) (by omega)
     have p4:=p3.1.put (fun _=>rfl) (i*5+3) (.int .i64 x.yes) (by omega) (by omega)
     have p5:=p4.1.put (fun _=>rfl) (i*5+4) (.int .i64 x.no) (by omega) (by omega)
     have a7:=hid (((((f.put_far C.out (i*5) (.int .i64 x.kind)).put_far C.out (i*5+1) (.int .i64 x.n)).put_far C.out (i*5+2) (.slice j k c0)).put_far C.out (i*5+3) (.int .i64 x.yes)).put_far C.out (i*5+4) (.int .i64 x.no));have a3:=hid ((((((J.out.trans r).put_new s.out (i*5) (.int .i64 x.kind)).put_new s.out (i*5+1) (.int .i64 x.n)).put_new s.out (i*5+2) (.slice j k c0)).put_new s.out (i*5+3) (.int .i64 x.yes)).put_new s.out (i*5+4) (.int .i64 x.no));have L:Hid (RowK zqF 5 65 m (((((N.setCell ⟨g,i*5,none⟩ (.int .i64 x.kind)).setCell ⟨g,i*5+1,none⟩ (.int .i64 x.n)).setCell ⟨g,i*5+2,none⟩ (.slice j k c0)).setCell ⟨g,i*5+3,none⟩ (.int .i64 x.yes)).setCell ⟨g,i*5+4,none⟩ (.int .i64 x.no)) g (B++[(x,(Value.slice j k c0))])):=by
      refine p5.1.more (x,(Value.slice j k c0)) fun l u E=>?_
      rw[F];match l,E with
      |0,E=>cases E;exact((zou _ _ _ _ (by intro e;simp only[Addr.mk.injEq]at e;omega)).trans ((zou _ _ _ _ (by intro e;simp only[Addr.mk.injEq]at e;omega)).trans ((zou _ _ _ _ (by intro e;simp only[Addr.mk.injEq]at e;omega)).trans ((zou _ _ _ _ (by intro e;simp only[Addr.mk.injEq]at e;omega)).trans p1.2))))
      |1,E=>cases E;exact((zou _ _ _ _ (by intro e;simp only[Addr.mk.injEq]at e;omega)).trans ((zou _ _ _ _ (by intro e;simp only[Addr.mk.injEq]at e;omega)).trans ((zou _ _ _ _ (by intro e;simp only[Addr.mk.injEq]at e;omega)).trans p2.2)))
      |2,E=>cases E;exact((zou _ _ _ _ (by intro e;simp only[Addr.mk.injEq]at e;omega)).trans ((zou _ _ _ _ (by intro e;simp only[Addr.mk.injEq]at e;omega)).trans p3.2))
      |3,E=>cases E;exact((zou _ _ _ _ (by intro e;simp only[Addr.mk.injEq]at e;omega)).trans p4.2)
      |4,E=>cases E;exact p5.2
     have a1:Hid (A.heap.size<=(((((N.setCell ⟨g,i*5,none⟩ (.int .i64 x.kind)).setCell ⟨g,i*5+1,none⟩ (.int .i64 x.n)).setCell ⟨g,i*5+2,none⟩ (.slice j k c0)).setCell ⟨g,i*5+3,none⟩ (.int .i64 x.yes)).setCell ⟨g,i*5+4,none⟩ (.int .i64 x.no)).heap.size):=by
      have h1:A.heap.size<=N.heap.size:=zoz HS.out r.size;show A.heap.size<=(((((N.setCell ⟨g,i*5,none⟩ (.int .i64 x.kind)).setCell ⟨g,i*5+1,none⟩ (.int .i64 x.n)).setCell ⟨g,i*5+2,none⟩ (.slice j k c0)).setCell ⟨g,i*5+3,none⟩ (.int .i64 x.yes)).setCell ⟨g,i*5+4,none⟩ (.int .i64 x.no)).heap.size;simpa[World.setCell]using h1
     have R:Hid (∀y∈B++[(x,(Value.slice j k c0))],NodeP A y (((((N.setCell ⟨g,i*5,none⟩ (.int .i64 x.kind)).setCell ⟨g,i*5+1,none⟩ (.int .i64 x.n)).setCell ⟨g,i*5+2,none⟩ (.slice j k c0)).setCell ⟨g,i*5+3,none⟩ (.int .i64 x.yes)).setCell ⟨g,i*5+4,none⟩ (.int .i64 x.no))):=fun y hy=>by
      have HH:NodeP A y N:=by
       rcases List.mem_append.1 hy with h|h
       ·exact(I.out y h).keep (ko r a4.out)
       ·simp only[zoD,zoA,or_false]at h;rw[h];exact D.low HS.out
      exact(((((HH.keep (zl G.out (i*5) (.int .i64 x.kind))).keep (zl G.out (i*5+1) (.int .i64 x.n))).keep (zl G.out (i*5+2) (.slice j k c0))).keep (zl G.out (i*5+3) (.int .i64 x.yes))).keep (zl G.out (i*5+4) (.int .i64 x.no)))
     have a0:Hid (xk ((B++[(x,(Value.slice j k c0))]).map (·.1)) (xh (zo7 zs) (m-(i+1)) u')=yz zs (zo7 zs) t):=by
      show _=_;rw[<-O,show m-(i+1)=m-i-1 by omega,List.map_append];rfl
     have a6:Hid ((B++[(x,(Value.slice j k c0))]).length=i+1):=by show _=_;rw[List.length_append,Z.out];rfl
     have b5:=a8.out;clear HF r f O hq b HL Z I d Q J D p1 p2 p3 p4 p5 F HS;go_wp2;go_roundw
     case rel=>exact⟨i+1,u',B++[(x,(Value.slice j k c0))],zhs (by omega),hid a2,a6,R,a1,a0,a7,a3,L⟩
     case measure=>simp[intOf];omega
   ·have b3:¬(i:Int)<(m:Int):=by omega
    have e3:m-i=0:=by omega
    have HE:Hid (ka p a c zs (NodesV w) (yz zs (zo7 zs) t) w (.returned (.slice (some ⟨g,0,none⟩) m m)) wr):=by
     show ka _ _ _ _ _ _ _ _ _;rw[<-HL.out,e3];have F:B.length=m:=by have h1:=Z.out;have h2:=HI.out;omega
     have S:=d.out;refine⟨J.out,_,rfl,⟨g,B,?_,s.out,?_,?_,?_⟩,Q.out⟩
     ·rw[List.append_nil,zoE,F]
     ·rw[List.append_nil]
     ·rw[List.append_nil,zoE,F];exact S
     ·exact fun y hy=>(I.out y hy).low a5.out
    clear HL Z I d Q J;go_wp2;go_ret;exact HE.out
theorem Tryz.infoDeedR:(Tryz.prog.info? 59).map (fun i=>(i.zero,i.size,i.bytes))=some (some (.agg #[.int .i64 0,.int .i64 0,.int .i64 0,.int .i64 0,.slice none 0 0]),5,56):=by kernel_rfl
def zqG(y:DeedX × Value):List Value:=[.int .i64 y.1.kind,.int .i64 y.1.h,.int .i64 y.1.f,.int .i64 y.1.head,y.2]
def DeedP(w:World)(y:DeedX × Value)(w':World):Prop:=TreeV w y.1.e w' y.2/\(Lit.int .i64 y.1.kind).wf=true/\(Lit.int .i64 y.1.h).wf=true/\(Lit.int .i64 y.1.f).wf=true/\(Lit.int .i64 y.1.head).wf=true
theorem DeedP.keep{w a w2:World}{y:DeedX × Value}(h:DeedP w y a)(hb:∀g,w.heap.size<=g->w2.heap[g]?=a.heap[g]?\/a.heap.size<=g):DeedP w y w2:=by
 obtain⟨c,b⟩:=h;exact⟨c.keep hb,b⟩
theorem DeedP.low{w w0 a:World}{y:DeedX × Value}(h:DeedP w y a)(hb:w0.heap.size<=w.heap.size):DeedP w0 y a:=by
 obtain⟨c,b⟩:=h;exact⟨c.low hb,b⟩
def DeedsV(w:World)(a:List DeedX)(w':World)(v:Value):Prop:=∃g,∃b:List (DeedX × Value),v=.slice (some ⟨g,0,none⟩) a.length a.length/\w.heap.size<=g/\b.map (·.1)=a/\RowK zqG 5 59 a.length w' g b/\∀y∈b,DeedP w y w'
theorem zsi{p:Nat}{a:Option Addr}{c:Nat}{zs:List Int}{t:Nat}{w:World}(h:Rd p a c zs t w):
 Calls Tryz.prog 149 #[.pointer (some ⟨p,0,none⟩),.func (.func 150) #[.pointer (some ⟨p,0,none⟩)] #[]] w (ka p a c zs (DeedsV w) (yz zs (qc zs) t) w):=by
 have HP:=hid (zp2 h);clear h;go_enter Tryz.func149,Tryz.ntmps149
 go_wp2_with fail
 refine HP.out.mono ?_;rintro e Y ⟨hn,hr⟩;cases T:zpl zs t with
 |error e=>
  have e1:yz zs (qc zs) t=.error e:=by unfold yz;rw[T]
  rw[T]at hr;obtain rfl:=hr;exact yl (P:=Tryz.prog) (fn:=Tryz.f149) (by rw[e1];exact⟨hn,rfl⟩) rfl
 |ok x=>
  obtain⟨m,t1⟩:=x;have e1:yz zs (qc zs) t=xh (qc zs) m t1:=by unfold yz;rw[T]
  rw[T]at hr;obtain⟨_,rfl,⟨rfl,hm⟩,H⟩:=hr;obtain⟨i0,hi,X,V,U⟩:=info_parts Tryz.infoDeedR;have K:m<=100000:=zoz hm H.few;have a9:∀W:World,(Instr.makeSlice 54 (.int .i64 (m:Int)) (.int .i64 (m:Int))).run Tryz.prog W=.ok (.slice (some ⟨W.heap.size,0,none⟩) m m) (W.alloc (.cells (madeCells #[.int .i64 0,.int .i64 0,.int .i64 0,.int .i64 0,.slice none 0 0] (m*5)) 59)):=fun W=>by
   have h:=run_make (P:=Tryz.prog) W 54 59 i0 _ Tryz.underlying54 hi X .i64 .i64 (m:Int) (m:Int) (by omega) (by omega) (by rw[U];omega) (by omega)
   rw[show((m:Int)).toNat=m by omega,V]at h
   exact h
  obtain⟨A,hW⟩:∃A,A=Y.alloc (.cells (madeCells #[.int .i64 0,.int .i64 0,.int .i64 0,.int .i64 0,.slice none 0 0] (m*5)) 59):=⟨_,rfl⟩;obtain⟨g,hg⟩:∃g,g=Y.heap.size:=⟨_,rfl⟩;have b2:Below Y.heap.size Y A:=by rw[hW];exact ze (zof _ _)
  have R0:RowK zqG 5 59 m A g []:=by
   rw[hW,hg];exact RowK.new zqG 5 _ m Y _ (by simp[madeCells])
  have Q:=hid (H.step b2);have J:=hid (hn.trans (Rn.of b2));have M:p<g:=by rw[hg];exact zog _ _ H.c0
  have s:Hid (w.heap.size<=g):=by show w.heap.size<=g;rw[hg];exact hn.size
  have C:Hid (p<g):=M;have a5:Hid (w.heap.size<=A.heap.size):=J.out.size;have b1:Hid (g≠p):=by show g≠p;omega
  have d:=hid R0;have G:=hid (R0.lt);have a4:Hid (p<A.heap.size):=Nat.lt_trans M R0.lt;have EW:=hid hW;have EG:=hid hg;have E1:=hid e1;have a8:=hid K;clear HP T H hn e1 hm hi X V U hW hg b2 R0 M K;go_wp2;rw[<-EW.out,<-EG.out];clear EW EG a9;go_loopw [12,6] (fun q _ wr=>∃(i u:Nat) (B:List (DeedX × Value)),q=.int .i64 (i:Int)/\Hid (i<=m)/\Hid (B.length=i)/\Hid (∀y∈B,DeedP A y wr)/\Hid (A.heap.size<=wr.heap.size)/\Hid (xk (B.map (·.1)) (xh (qc zs) (m-i) u)=yz zs (qc zs) t)/\Hid (Rd p a c zs u wr)/\Hid (Rn p w wr)/\Hid (RowK zqG 5 59 m wr g B)) (fun q _ _=>m-(intOf q).toNat)
  case atStart=>
   refine⟨0,t1,[],rfl,zon _,rfl,fun x hx=>(by simp at hx),zos _,?_,Q,J,d⟩
   show xk [] (xh (qc zs) m t1)=_;rw[E1.out];cases xh (qc zs) m t1 with
   |error e=>rfl
   |ok y=>rfl
  case round=>
   obtain⟨i,u,B,rfl,HI,Z,I,HS,HL,Q,J,d⟩:=hrel;by_cases a2:i<m
   ·have b3:(i:Int)<(m:Int):=by omega
    have HF:=hid (zvn Q.out);go_wp2_with fail
    refine HF.out.mono ?_;rintro e N ⟨r,j⟩;have O:=HL.out;rw[show m-i=(m-i-1)+1 by omega]at O
    cases hq:qc zs u with
    |error e=>
     rw[zo5 _ _ _ _ e hq]at O;rw[hq]at j;obtain rfl:=j;exact yl (P:=Tryz.prog) (fn:=Tryz.f149) (by rw[<-O];exact⟨J.out.trans r,rfl⟩) rfl
    |ok y=>
     obtain⟨x,u'⟩:=y;rw[zo4 _ _ _ _ x u' hq]at O;rw[hq]at j;obtain⟨_,rfl,⟨b4,rfl,D⟩,j⟩:=j;have D:DeedP wr (x,b4) N:=D;obtain⟨k,n,c0,rfl⟩:=D.1.sl;have b:=d.out.rn r b1.out;have F:=Z.out;have hb:i*5+5<=m*5:=by omega
     obtain⟨o0,k0⟩:=b.some (o:=i*5) (by omega)
     obtain⟨o1,k1⟩:=b.some (o:=i*5+1) (by omega)
     obtain⟨o2,k2⟩:=b.some (o:=i*5+2) (by omega)
     obtain⟨o3,k3⟩:=b.some (o:=i*5+3) (by omega)
     obtain⟨o4,k4⟩:=b.some (o:=i*5+4) (by omega)
     have z0:=b.fz (i*5);have z1:=b.fz (i*5+1);have z2:=b.fz (i*5+2);have z3:=b.fz (i*5+3);have z4:=b.fz (i*5+4);have kl:=b.lt;have p1:=b.put (fun _=>rfl) (i*5) (.int .i64 x.kind) (by omega) (by omega)
     have p2:=p1.1.put (fun _=>rfl) (i*5+1) (.int .i64 x.h) (by omega) (by omega)
     have p3:=p2.1.put (fun _=>rfl) (i*5+2) (.int .i64 x.f) (by omega) (by omega)
     have p4:=p3.1.put (fun _=>rfl) (i*5+3) (.int .i64 x.head) (by omega) (by omega)
     have p5:=p4.1.put (fun _=>rfl) (i*5+4) (.slice k n c0) (by omega) (by omega)
     have a7:=hid (((((j.put_far C.out (i*5) (.int .i64 x.kind)).put_far C.out (i*5+1) (.int .i64 x.h)).put_far C.out (i*5+2) (.int .i64 x.f)).put_far C.out (i*5+3) (.int .i64 x.head)).put_far C.out (i*5+4) (.slice k n c0));have a3:=hid ((((((J.out.trans r).put_new s.out (i*5) (.int .i64 x.kind)).put_new s.out (i*5+1) (.int .i64 x.h)).put_new s.out (i*5+2) (.int .i64 x.f)).put_new s.out (i*5+3) (.int .i64 x.head)).put_new s.out (i*5+4) (.slice k n c0));have L:Hid (RowK zqG 5 59 m (((((N.setCell ⟨g,i*5,none⟩ (.int .i64 x.kind)).setCell ⟨g,i*5+1,none⟩ (.int .i64 x.h)).setCell ⟨g,i*5+2,none⟩ (.int .i64 x.f)).setCell ⟨g,i*5+3,none⟩ (.int .i64 x.head)).setCell ⟨g,i*5+4,none⟩ (.slice k n c0)) g (B++[(x,(Value.slice k n c0))])):=by
      refine p5.1.more (x,(Value.slice k n c0)) fun l u E=>?_
      rw[F];match l,E with
      |0,E=>cases E;exact((zou _ _ _ _ (by intro e;simp only[Addr.mk.injEq]at e;omega)).trans ((zou _ _ _ _ (by intro e;simp only[Addr.mk.injEq]at e;omega)).trans ((zou _ _ _ _ (by intro e;simp only[Addr.mk.injEq]at e;omega)).trans ((zou _ _ _ _ (by intro e;simp only[Addr.mk.injEq]at e;omega)).trans p1.2))))
      |1,E=>cases E;exact((zou _ _ _ _ (by intro e;simp only[Addr.mk.injEq]at e;omega)).trans ((zou _ _ _ _ (by intro e;simp only[Addr.mk.injEq]at e;omega)).trans ((zou _ _ _ _ (by intro e;simp only[Addr.mk.injEq]at e;omega)).trans p2.2)))
      |2,E=>cases E;exact((zou _ _ _ _ (by intro e;simp only[Addr.mk.injEq]at e;omega)).trans ((zou _ _ _ _ (by intro e;simp only[Addr.mk.injEq]at e;omega)).trans p3.2))
      |3,E=>cases E;exact((zou _ _ _ _ (by intro e;simp only[Addr.mk.injEq]at e;omega)).trans p4.2)
      |4,E=>cases E;exact p5.2
     have a1:Hid (A.heap.size<=(((((N.setCell ⟨g,i*5,none⟩ (.int .i64 x.kind)).setCell ⟨g,i*5+1,none⟩ (.int .i64 x.h)).setCell ⟨g,i*5+2,none⟩ (.int .i64 x.f)).setCell ⟨g,i*5+3,none⟩ (.int .i64 x.head)).setCell ⟨g,i*5+4,none⟩ (.slice k n c0)).heap.size):=by
      have h1:A.heap.size<=N.heap.size:=zoz HS.out r.size;show A.heap.size<=(((((N.setCell ⟨g,i*5,none⟩ (.int .i64 x.kind)).setCell ⟨g,i*5+1,none⟩ (.int .i64 x.h)).setCell ⟨g,i*5+2,none⟩ (.int .i64 x.f)).setCell ⟨g,i*5+3,none⟩ (.int .i64 x.head)).setCell ⟨g,i*5+4,none⟩ (.slice k n c0)).heap.size;simpa[World.setCell]using h1
     have R:Hid (∀y∈B++[(x,(Value.slice k n c0))],DeedP A y (((((N.setCell ⟨g,i*5,none⟩ (.int .i64 x.kind)).setCell ⟨g,i*5+1,none⟩ (.int .i64 x.h)).setCell ⟨g,i*5+2,none⟩ (.int .i64 x.f)).setCell ⟨g,i*5+3,none⟩ (.int .i64 x.head)).setCell ⟨g,i*5+4,none⟩ (.slice k n c0))):=fun y hy=>by
      have HH:DeedP A y N:=by
       rcases List.mem_append.1 hy with h|h
       ·exact(I.out y h).keep (ko r a4.out)
       ·simp only[zoD,zoA,or_false]at h;rw[h];exact D.low HS.out
      exact(((((HH.keep (zl G.out (i*5) (.int .i64 x.kind))).keep (zl G.out (i*5+1) (.int .i64 x.h))).keep (zl G.out (i*5+2) (.int .i64 x.f))).keep (zl G.out (i*5+3) (.int .i64 x.head))).keep (zl G.out (i*5+4) (.slice k n c0)))
     have a0:Hid (xk ((B++[(x,(Value.slice k n c0))]).map (·.1)) (xh (qc zs) (m-(i+1)) u')=yz zs (qc zs) t):=by
      show _=_;rw[<-O,show m-(i+1)=m-i-1 by omega,List.map_append];rfl
     have a6:Hid ((B++[(x,(Value.slice k n c0))]).length=i+1):=by show _=_;rw[List.length_append,Z.out];rfl
     have b5:=a8.out;clear HF r j O hq b HL Z I d Q J D p1 p2 p3 p4 p5 F HS;go_wp2;go_roundw
     case rel=>exact⟨i+1,u',B++[(x,(Value.slice k n c0))],zhs (by omega),hid a2,a6,R,a1,a0,a7,a3,L⟩
     case measure=>simp[intOf];omega
   ·have b3:¬(i:Int)<(m:Int):=by omega
    have e3:m-i=0:=by omega
    have HE:Hid (ka p a c zs (DeedsV w) (yz zs (qc zs) t) w (.returned (.slice (some ⟨g,0,none⟩) m m)) wr):=by
     show ka _ _ _ _ _ _ _ _ _;rw[<-HL.out,e3];have F:B.length=m:=by have h1:=Z.out;have h2:=HI.out;omega
     have S:=d.out;refine⟨J.out,_,rfl,⟨g,B,?_,s.out,?_,?_,?_⟩,Q.out⟩
     ·rw[List.append_nil,zoE,F]
     ·rw[List.append_nil]
     ·rw[List.append_nil,zoE,F];exact S
     ·exact fun y hy=>(I.out y hy).low a5.out
    clear HL Z I d Q J;go_wp2;go_ret;exact HE.out
theorem Tryz.infoHeadR:(Tryz.prog.info? 53).map (fun i=>(i.zero,i.size,i.bytes))=some (some (.agg #[.slice none 0 0]),1,24):=by kernel_rfl
def zrd(y:(List Int) × Value):List Value:=[y.2]
def HeadP(w:World)(y:(List Int) × Value)(w':World):Prop:=IntsV w y.1 w' y.2
theorem HeadP.keep{w a w2:World}{y:(List Int) × Value}(h:HeadP w y a)(hb:∀g,w.heap.size<=g->w2.heap[g]?=a.heap[g]?\/a.heap.size<=g):HeadP w y w2:=by
 have b:IntsV _ _ _ _:=h;exact b.keep hb
theorem HeadP.low{w w0 a:World}{y:(List Int) × Value}(h:HeadP w y a)(hb:w0.heap.size<=w.heap.size):HeadP w0 y a:=by
 have b:IntsV _ _ _ _:=h;exact b.low hb
def HeadsV(w:World)(a:List (List Int))(w':World)(v:Value):Prop:=∃g,∃b:List ((List Int) × Value),v=.slice (some ⟨g,0,none⟩) a.length a.length/\w.heap.size<=g/\b.map (·.1)=a/\RowK zrd 1 53 a.length w' g b/\∀y∈b,HeadP w y w'
theorem zsj{p:Nat}{a:Option Addr}{c:Nat}{zs:List Int}{t:Nat}{w:World}(h:Rd p a c zs t w):
 Calls Tryz.prog 112 #[.pointer (some ⟨p,0,none⟩),.func (.func 113) #[.pointer (some ⟨p,0,none⟩)] #[]] w (ka p a c zs (HeadsV w) (yz zs (yz zs (ke zs)) t) w):=by
 have HP:=hid (zp2 h);clear h;go_enter Tryz.func112,Tryz.ntmps112
 go_wp2_with fail
 refine HP.out.mono ?_;rintro e N ⟨hn,Y⟩;cases L:zpl zs t with
 |error e=>
  have X:yz zs (yz zs (ke zs)) t=.error e:=by unfold yz;rw[L]
  rw[L]at Y;obtain rfl:=Y;exact yl (P:=Tryz.prog) (fn:=Tryz.f112) (by rw[X];exact⟨hn,rfl⟩) rfl
 |ok x=>
  obtain⟨m,t1⟩:=x;have X:yz zs (yz zs (ke zs)) t=xh (yz zs (ke zs)) m t1:=by unfold yz;rw[L]
  rw[L]at Y;obtain⟨_,rfl,⟨rfl,hm⟩,D⟩:=Y;obtain⟨i0,hi,S,Q,V⟩:=info_parts Tryz.infoHeadR;have E:m<=100000:=zoz hm D.few;have a2:∀W:World,(Instr.makeSlice 22 (.int .i64 (m:Int)) (.int .i64 (m:Int))).run Tryz.prog W=.ok (.slice (some ⟨W.heap.size,0,none⟩) m m) (W.alloc (.cells (madeCells #[.slice none 0 0] m) 53)):=fun W=>by
   have h:=run_make (P:=Tryz.prog) W 22 53 i0 _ Tryz.underlying22 hi S .i64 .i64 (m:Int) (m:Int) (by omega) (by omega) (by rw[V];omega) (by omega)
   rw[show((m:Int)).toNat=m by omega,Q,Nat.mul_one]at h
   exact h
  obtain⟨r,hW⟩:∃r,r=N.alloc (.cells (madeCells #[.slice none 0 0] m) 53):=⟨_,rfl⟩;obtain⟨g,hg⟩:∃g,g=N.heap.size:=⟨_,rfl⟩;have b2:Below N.heap.size N r:=by rw[hW];exact ze (zof _ _)
  have Z:RowK zrd 1 53 m r g []:=by
   rw[hW,hg];exact RowK.new zrd 1 _ m N _ (by simp[madeCells])
  have K:=hid (D.step b2);have F:=hid (hn.trans (Rn.of b2));have I:p<g:=by rw[hg];exact zog _ _ D.c0
  have O:Hid (w.heap.size<=g):=by show w.heap.size<=g;rw[hg];exact hn.size
  have a0:Hid (p<g):=I;have b1:Hid (w.heap.size<=r.heap.size):=F.out.size;have a4:Hid (g≠p):=by show g≠p;omega
  have b:=hid Z;have b3:=hid (Z.lt);have a8:Hid (p<r.heap.size):=Nat.lt_trans I Z.lt;have EW:=hid hW;have EG:=hid hg;have E1:=hid X;have b6:=hid E;clear HP L D hn X hm hi S Q V hW hg b2 Z I E;go_wp2;rw[<-EW.out,<-EG.out];clear EW EG a2;go_loopw [12,6] (fun q _ wr=>∃(i u:Nat) (s:List ((List Int) × Value)),q=.int .i64 (i:Int)/\Hid (i<=m)/\Hid (s.length=i)/\Hid (∀y∈s,HeadP r y wr)/\Hid (r.heap.size<=wr.heap.size)/\Hid (xk (s.map (·.1)) (xh (yz zs (ke zs)) (m-i) u)=yz zs (yz zs (ke zs)) t)/\Hid (Rd p a c zs u wr)/\Hid (Rn p w wr)/\Hid (RowK zrd 1 53 m wr g s)) (fun q _ _=>m-(intOf q).toNat)
  case atStart=>
   refine⟨0,t1,[],rfl,zon _,rfl,fun x hx=>(by simp at hx),zos _,?_,K,F,b⟩
   show xk [] (xh (yz zs (ke zs)) m t1)=_;rw[E1.out];cases xh (yz zs (ke zs)) m t1 with
   |error e=>rfl
   |ok y=>rfl
  case round=>
   obtain⟨i,u,s,rfl,HI,R,C,HS,HL,K,F,b⟩:=hrel;by_cases b5:i<m
   ·have a9:(i:Int)<(m:Int):=by omega
    have HF:=hid (zuz K.out);go_wp2_with fail
    refine HF.out.mono ?_;rintro e G ⟨n,f⟩;have J:=HL.out;rw[show m-i=(m-i-1)+1 by omega]at J
    cases U:yz zs (ke zs) u with
    |error e=>
     rw[zo5 _ _ _ _ e U]at J;rw[U]at f;obtain rfl:=f;exact yl (P:=Tryz.prog) (fn:=Tryz.f112) (by rw[<-J];exact⟨F.out.trans n,rfl⟩) rfl
    |ok y=>
     obtain⟨x,u'⟩:=y;rw[zo4 _ _ _ _ x u' U]at J;rw[U]at f;obtain⟨_,rfl,⟨b4,rfl,A⟩,f⟩:=f;have A:HeadP wr (x,b4) G:=A;obtain⟨j,k,c0,rfl⟩:=A.sl;have d:=b.out.rn n a4.out;have B:=R.out;have hb:i*1+1<=m*1:=by omega
     obtain⟨o0,k0⟩:=d.some (o:=i) (by omega)
     have z0:=d.fz (i);have kl:=d.lt;have p1:=d.put (fun _=>rfl) (i) (.slice j k c0) (by omega) (by omega)
     have a5:=hid (f.put_far a0.out (i) (.slice j k c0));have a7:=hid ((F.out.trans n).put_new O.out (i) (.slice j k c0));have H:Hid (RowK zrd 1 53 m (G.setCell ⟨g,i,none⟩ (.slice j k c0)) g (s++[(x,(Value.slice j k c0))])):=by
      refine p1.1.more (x,(Value.slice j k c0)) fun l u hu=>?_
      rw[B,Nat.mul_one];match l,hu with
      |0,hu=>cases hu;exact p1.2
     have a6:Hid (r.heap.size<=(G.setCell ⟨g,i,none⟩ (.slice j k c0)).heap.size):=by
      have h1:r.heap.size<=G.heap.size:=zoz HS.out n.size;show r.heap.size<=(G.setCell ⟨g,i,none⟩ (.slice j k c0)).heap.size;simpa[World.setCell]using h1
     have M:Hid (∀y∈s++[(x,(Value.slice j k c0))],HeadP r y (G.setCell ⟨g,i,none⟩ (.slice j k c0))):=fun y hy=>by
      have HH:HeadP r y G:=by
       rcases List.mem_append.1 hy with h|h
       ·exact(C.out y h).keep (ko n a8.out)
       ·simp only[zoD,zoA,or_false]at h;rw[h];exact A.low HS.out
      exact(HH.keep (zl b3.out (i) (.slice j k c0)))
     have a3:Hid (xk ((s++[(x,(Value.slice j k c0))]).map (·.1)) (xh (yz zs (ke zs)) (m-(i+1)) u')=yz zs (yz zs (ke zs)) t):=by
      show _=_;rw[<-J,show m-(i+1)=m-i-1 by omega,List.map_append];rfl
     have a1:Hid ((s++[(x,(Value.slice j k c0))]).length=i+1):=by show _=_;rw[List.length_append,R.out];rfl
     have b7:=b6.out;clear HF n f J U d HL R C b K F A p1 B HS;go_wp2;go_roundw
     case rel=>exact⟨i+1,u',s++[(x,(Value.slice j k c0))],zhs (by omega),hid b5,a1,M,a6,a3,a5,a7,H⟩
     case measure=>simp[intOf];omega
   ·have a9:¬(i:Int)<(m:Int):=by omega
    have e3:m-i=0:=by omega
    have HE:Hid (ka p a c zs (HeadsV w) (yz zs (yz zs (ke zs)) t) w (.returned (.slice (some ⟨g,0,none⟩) m m)) wr):=by
     show ka _ _ _ _ _ _ _ _ _;rw[<-HL.out,e3];have B:s.length=m:=by have h1:=R.out;have h2:=HI.out;omega
     have T:=b.out;refine⟨F.out,_,rfl,⟨g,s,?_,O.out,?_,?_,?_⟩,K.out⟩
     ·rw[List.append_nil,zoE,B]
     ·rw[List.append_nil]
     ·rw[List.append_nil,zoE,B];exact T
     ·exact fun y hy=>(C.out y hy).low b1.out
    clear HL R C b K F;go_wp2;go_ret;exact HE.out
theorem Tryz.infoTabR:(Tryz.prog.info? 63).map (fun i=>(i.zero,i.size,i.bytes))=some (some (.agg #[.int .i64 0,.slice none 0 0,.slice none 0 0,.int .i64 0,.int .i64 0,.slice none 0 0]),6,96):=by kernel_rfl
def zry(y:TabX × Value × Value × Value):List Value:=[.int .i64 y.1.kind,y.2.1,y.2.2.1,.int .i64 y.1.cap,.int .i64 y.1.dflt,y.2.2.2]
def TabP(w:World)(y:TabX × Value × Value × Value)(w':World):Prop:=RefsV w y.1.keys w' y.2.1/\IntsV w y.1.acts w' y.2.2.1/\NumsV w y.1.args w' y.2.2.2/\(Lit.int .i64 y.1.kind).wf=true/\(Lit.int .i64 y.1.cap).wf=true/\(Lit.int .i64 y.1.dflt).wf=true
theorem TabP.keep{w a w2:World}{y:TabX × Value × Value × Value}(h:TabP w y a)(hb:∀g,w.heap.size<=g->w2.heap[g]?=a.heap[g]?\/a.heap.size<=g):TabP w y w2:=by
 obtain⟨b,d,c,e⟩:=h;exact⟨b.keep hb,d.keep hb,c.keep hb,e⟩
theorem TabP.low{w w0 a:World}{y:TabX × Value × Value × Value}(h:TabP w y a)(hb:w0.heap.size<=w.heap.size):TabP w0 y a:=by
 obtain⟨b,d,c,e⟩:=h;exact⟨b.low hb,d.low hb,c.low hb,e⟩
def TabsV(w:World)(a:List TabX)(w':World)(v:Value):Prop:=∃g,∃b:List (TabX × Value × Value × Value),v=.slice (some ⟨g,0,none⟩) a.length a.length/\w.heap.size<=g/\b.map (·.1)=a/\RowK zry 6 63 a.length w' g b/\∀y∈b,TabP w y w'
theorem zsW{p:Nat}{a:Option Addr}{c:Nat}{zs:List Int}{t:Nat}{w:World}(h:Rd p a c zs t w):
 Calls Tryz.prog 120 #[.pointer (some ⟨p,0,none⟩),.func (.func 121) #[.pointer (some ⟨p,0,none⟩)] #[]] w (ka p a c zs (TabsV w) (yz zs (zpz zs) t) w):=by
 have HP:=hid (zp2 h);clear h;go_enter Tryz.func120,Tryz.ntmps120
 go_wp2_with fail
 refine HP.out.mono ?_;rintro e w1 ⟨hn,hr⟩;cases X:zpl zs t with
 |error e=>
  have e1:yz zs (zpz zs) t=.error e:=by unfold yz;rw[X]
  rw[X]at hr;obtain rfl:=hr;exact yl (P:=Tryz.prog) (fn:=Tryz.f120) (by rw[e1];exact⟨hn,rfl⟩) rfl
 |ok x=>
  obtain⟨m,t1⟩:=x;have e1:yz zs (zpz zs) t=xh (zpz zs) m t1:=by unfold yz;rw[X]
  rw[X]at hr;obtain⟨_,rfl,⟨rfl,hm⟩,K⟩:=hr;obtain⟨i0,hi,a0,Z,Y⟩:=info_parts Tryz.infoTabR;have N:m<=100000:=zoz hm K.few;have b4:∀W:World,(Instr.makeSlice 26 (.int .i64 (m:Int)) (.int .i64 (m:Int))).run Tryz.prog W=.ok (.slice (some ⟨W.heap.size,0,none⟩) m m) (W.alloc (.cells (madeCells #[.int .i64 0,.slice none 0 0,.slice none 0 0,.int .i64 0,.int .i64 0,.slice none 0 0] (m*6)) 63)):=fun W=>by
   have h:=run_make (P:=Tryz.prog) W 26 63 i0 _ Tryz.underlying26 hi a0 .i64 .i64 (m:Int) (m:Int) (by omega) (by omega) (by rw[Y];omega) (by omega)
   rw[show((m:Int)).toNat=m by omega,Z]at h
   exact h
  obtain⟨G,hW⟩:∃G,G=w1.alloc (.cells (madeCells #[.int .i64 0,.slice none 0 0,.slice none 0 0,.int .i64 0,.int .i64 0,.slice none 0 0] (m*6)) 63):=⟨_,rfl⟩;obtain⟨g,hg⟩:∃g,g=w1.heap.size:=⟨_,rfl⟩;have f:Below w1.heap.size w1 G:=by rw[hW];exact ze (zof _ _)
  have R0:RowK zry 6 63 m G g []:=by
   rw[hW,hg];exact RowK.new zry 6 _ m w1 _ (by simp[madeCells])
  have T:=hid (K.step f);have M:=hid (hn.trans (Rn.of f));have Q:p<g:=by rw[hg];exact zog _ _ K.c0
  have n:Hid (w.heap.size<=g):=by show w.heap.size<=g;rw[hg];exact hn.size
  have D:Hid (p<g):=Q;have a7:Hid (w.heap.size<=G.heap.size):=M.out.size;have b5:Hid (g≠p):=by show g≠p;omega
  have d:=hid R0;have H:=hid (R0.lt);have a6:Hid (p<G.heap.size):=Nat.lt_trans Q R0.lt;have EW:=hid hW;have EG:=hid hg;have E1:=hid e1;have b3:=hid N;clear HP X K hn e1 hm hi a0 Z Y hW hg f R0 Q N;go_wp2;rw[<-EW.out,<-EG.out];clear EW EG b4;go_loopw [12,6] (fun q _ wr=>∃(i u:Nat) (I:List (TabX × Value × Value × Value)),q=.int .i64 (i:Int)/\Hid (i<=m)/\Hid (I.length=i)/\Hid (∀y∈I,TabP G y wr)/\Hid (G.heap.size<=wr.heap.size)/\Hid (xk (I.map (·.1)) (xh (zpz zs) (m-i) u)=yz zs (zpz zs) t)/\Hid (Rd p a c zs u wr)/\Hid (Rn p w wr)/\Hid (RowK zry 6 63 m wr g I)) (fun q _ _=>m-(intOf q).toNat)
  case atStart=>
   refine⟨0,t1,[],rfl,zon _,rfl,fun x hx=>(by simp at hx),zos _,?_,T,M,d⟩
   show xk [] (xh (zpz zs) m t1)=_;rw[E1.out];cases xh (zpz zs) m t1 with
   |error e=>rfl
   |ok y=>rfl
  case round=>
   obtain⟨i,u,I,rfl,HI,HX,L,HS,HL,T,M,d⟩:=hrel;by_cases a4:i<m
   ·have b6:(i:Int)<(m:Int):=by omega
    have HF:=hid (zu3 T.out);go_wp2_with fail
    refine HF.out.mono ?_;rintro e R ⟨E,j⟩;have S:=HL.out;rw[show m-i=(m-i-1)+1 by omega]at S
    cases hq:zpz zs u with
    |error e=>
     rw[zo5 _ _ _ _ e hq]at S;rw[hq]at j;obtain rfl:=j;exact yl (P:=Tryz.prog) (fn:=Tryz.f120) (by rw[<-S];exact⟨M.out.trans E,rfl⟩) rfl
    |ok y=>
     obtain⟨x,u'⟩:=y;rw[zo4 _ _ _ _ x u' hq]at S;rw[hq]at j;obtain⟨_,rfl,⟨b8,b7,a3,rfl,k⟩,j⟩:=j;have k:TabP wr (x,b8,b7,a3) R:=k;obtain⟨r,B,c0,rfl⟩:=k.1.sl;obtain⟨C,s,c1,rfl⟩:=k.2.1.sl;obtain⟨f,A,c2,rfl⟩:=k.2.2.1.sl;have b:=d.out.rn E b5.out;have J:=HX.out;have hb:i*6+6<=m*6:=by omega
     obtain⟨o0,k0⟩:=b.some (o:=i*6) (by omega)
     obtain⟨o1,k1⟩:=b.some (o:=i*6+1) (by omega)
     obtain⟨o2,k2⟩:=b.some (o:=i*6+2) (by omega)
     obtain⟨o3,k3⟩:=b.some (o:=i*6+3) (by omega)
     obtain⟨o4,k4⟩:=b.some (o:=i*6+4) (by omega)
     obtain⟨o5,k5⟩:=b.some (o:=i*6+5) (by omega)
     have z0:=b.fz (i*6);have z1:=b.fz (i*6+1);have z2:=b.fz (i*6+2);have z3:=b.fz (i*6+3);have z4:=b.fz (i*6+4);have z5:=b.fz (i*6+5);have kl:=b.lt;have p1:=b.put (fun _=>rfl) (i*6) (.int .i64 x.kind) (by omega) (by omega)
     have p2:=p1.1.put (fun _=>rfl) (i*6+1) (.slice r B c0) (by omega) (by omega)
     have p3:=p2.1.put (fun _=>rfl) (i*6+2) (.slice C s c1) (by omega) (by omega)
     have p4:=p3.1.put (fun _=>rfl) (i*6+3) (.int .i64 x.cap) (by omega) (by omega)
     have p5:=p4.1.put (fun _=>rfl) (i*6+4) (.int .i64 x.dflt) (by omega) (by omega)
     have p6:=p5.1.put (fun _=>rfl) (i*6+5) (.slice f A c2) (by omega) (by omega)
     have a9:=hid ((((((j.put_far D.out (i*6) (.int .i64 x.kind)).put_far D.out (i*6+1) (.slice r B c0)).put_far D.out (i*6+2) (.slice C s c1)).put_far D.out (i*6+3) (.int .i64 x.cap)).put_far D.out (i*6+4) (.int .i64 x.dflt)).put_far D.out (i*6+5) (.slice f A c2));have a5:=hid (((((((M.out.trans E).put_new n.out (i*6) (.int .i64 x.kind)).put_new n.out (i*6+1) (.slice r B c0)).put_new n.out (i*6+2) (.slice C s c1)).put_new n.out (i*6+3) (.int .i64 x.cap)).put_new n.out (i*6+4) (.int .i64 x.dflt)).put_new n.out (i*6+5) (.slice f A c2));have O:Hid (RowK zry 6 63 m ((((((R.setCell ⟨g,i*6,none⟩ (.int .i64 x.kind)).setCell ⟨g,i*6+1,none⟩ (.slice r B c0)).setCell ⟨g,i*6+2,none⟩ (.slice C s c1)).setCell ⟨g,i*6+3,none⟩ (.int .i64 x.cap)).setCell ⟨g,i*6+4,none⟩ (.int .i64 x.dflt)).setCell ⟨g,i*6+5,none⟩ (.slice f A c2)) g (I++[(x,(Value.slice r B c0),(Value.slice C s c1),(Value.slice f A c2))])):=by
      refine p6.1.more (x,(Value.slice r B c0),(Value.slice C s c1),(Value.slice f A c2)) fun l u F=>?_
      rw[J];match l,F with
      |0,F=>cases F;exact((zou _ _ _ _ (by intro e;simp only[Addr.mk.injEq]at e;omega)).trans ((zou _ _ _ _ (by intro e;simp only[Addr.mk.injEq]at e;omega)).trans ((zou _ _ _ _ (by intro e;simp only[Addr.mk.injEq]at e;omega)).trans ((zou _ _ _ _ (by intro e;simp only[Addr.mk.injEq]at e;omega)).trans ((zou _ _ _ _ (by intro e;simp only[Addr.mk.injEq]at e;omega)).trans p1.2)))))
      |1,F=>cases F;exact((zou _ _ _ _ (by intro e;simp only[Addr.mk.injEq]at e;omega)).trans ((zou _ _ _ _ (by intro e;simp only[Addr.mk.injEq]at e;omega)).trans ((zou _ _ _ _ (by intro e;simp only[Addr.mk.injEq]at e;omega)).trans ((zou _ _ _ _ (by intro e;simp only[Addr.mk.injEq]at e;omega)).trans p2.2))))
      |2,F=>cases F;exact((zou _ _ _ _ (by intro e;simp only[Addr.mk.injEq]at e;omega)).trans ((zou _ _ _ _ (by intro e;simp only[Addr.mk.injEq]at e;omega)).trans ((zou _ _ _ _ (by intro e;simp only[Addr.mk.injEq]at e;omega)).trans p3.2)))
      |3,F=>cases F;exact((zou _ _ _ _ (by intro e;simp only[Addr.mk.injEq]at e;omega)).trans ((zou _ _ _ _ (by intro e;simp only[Addr.mk.injEq]at e;omega)).trans p4.2))
      |4,F=>cases F;exact((zou _ _ _ _ (by intro e;simp only[Addr.mk.injEq]at e;omega)).trans p5.2)
      |5,F=>cases F;exact p6.2
     have a2:Hid (G.heap.size<=((((((R.setCell ⟨g,i*6,none⟩ (.int .i64 x.kind)).setCell ⟨g,i*6+1,none⟩ (.slice r B c0)).setCell ⟨g,i*6+2,none⟩ (.slice C s c1)).setCell ⟨g,i*6+3,none⟩ (.int .i64 x.cap)).setCell ⟨g,i*6+4,none⟩ (.int .i64 x.dflt)).setCell ⟨g,i*6+5,none⟩ (.slice f A c2)).heap.size):=by
      have h1:G.heap.size<=R.heap.size:=zoz HS.out E.size;show G.heap.size<=((((((R.setCell ⟨g,i*6,none⟩ (.int .i64 x.kind)).setCell ⟨g,i*6+1,none⟩ (.slice r B c0)).setCell ⟨g,i*6+2,none⟩ (.slice C s c1)).setCell ⟨g,i*6+3,none⟩ (.int .i64 x.cap)).setCell ⟨g,i*6+4,none⟩ (.int .i64 x.dflt)).setCell ⟨g,i*6+5,none⟩ (.slice f A c2)).heap.size;simpa[World.setCell]using h1
     have U:Hid (∀y∈I++[(x,(Value.slice r B c0),(Value.slice C s c1),(Value.slice f A c2))],TabP G y ((((((R.setCell ⟨g,i*6,none⟩ (.int .i64 x.kind)).setCell ⟨g,i*6+1,none⟩ (.slice r B c0)).setCell ⟨g,i*6+2,none⟩ (.slice C s c1)).setCell ⟨g,i*6+3,none⟩ (.int .i64 x.cap)).setCell ⟨g,i*6+4,none⟩ (.int .i64 x.dflt)).setCell ⟨g,i*6+5,none⟩ (.slice f A c2))):=fun y hy=>by
      have HH:TabP G y R:=by
       rcases List.mem_append.1 hy with h|h
       ·exact(L.out y h).keep (ko E a6.out)
       ·simp only[zoD,zoA,or_false]at h;rw[h];exact k.low HS.out
      exact((((((HH.keep (zl H.out (i*6) (.int .i64 x.kind))).keep (zl H.out (i*6+1) (.slice r B c0))).keep (zl H.out (i*6+2) (.slice C s c1))).keep (zl H.out (i*6+3) (.int .i64 x.cap))).keep (zl H.out (i*6+4) (.int .i64 x.dflt))).keep (zl H.out (i*6+5) (.slice f A c2)))
     have a1:Hid (xk ((I++[(x,(Value.slice r B c0),(Value.slice C s c1),(Value.slice f A c2))]).map (·.1)) (xh (zpz zs) (m-(i+1)) u')=yz zs (zpz zs) t):=by
      show _=_;rw[<-S,show m-(i+1)=m-i-1 by omega,List.map_append];rfl
     have a8:Hid ((I++[(x,(Value.slice r B c0),(Value.slice C s c1),(Value.slice f A c2))]).length=i+1):=by show _=_;rw[List.length_append,HX.out];rfl
     have b9:=b3.out;clear HF E j S hq b HL HX L d T M k p1 p2 p3 p4 p5 p6 J HS;go_wp2;go_roundw
     case rel=>exact⟨i+1,u',I++[(x,(Value.slice r B c0),(Value.slice C s c1),(Value.slice f A c2))],zhs (by omega),hid a4,a8,U,a2,a1,a9,a5,O⟩
     case measure=>simp[intOf];omega
   ·have b6:¬(i:Int)<(m:Int):=by omega
    have e3:m-i=0:=by omega
    have HE:Hid (ka p a c zs (TabsV w) (yz zs (zpz zs) t) w (.returned (.slice (some ⟨g,0,none⟩) m m)) wr):=by
     show ka _ _ _ _ _ _ _ _ _;rw[<-HL.out,e3];have J:I.length=m:=by have h1:=HX.out;have h2:=HI.out;omega
     have V:=d.out;refine⟨M.out,_,rfl,⟨g,I,?_,n.out,?_,?_,?_⟩,T.out⟩
     ·rw[List.append_nil,zoE,J]
     ·rw[List.append_nil]
     ·rw[List.append_nil,zoE,J];exact V
     ·exact fun y hy=>(L.out y hy).low a7.out
    clear HL HX L d T M;go_wp2;go_ret;exact HE.out
theorem zri(c:Bool)(x y:StateD)(w:World)(X:QRow 3 CaseD.lie w x.cases x.cs)(hy:QRow 3 CaseD.lie w y.cases y.cs)(he:zsp c x.p y.p)(hm:x.cases.n<=100000):
 Calls Tryz.prog 35 #[.agg #[.int .i64 x.head,.int .i64 x.r.h,.int .i64 x.r.f,.slice x.cases.a x.cases.n x.cases.c,.int .i64 x.els],.agg #[.int .i64 y.head,.int .i64 y.r.h,.int .i64 y.r.f,.slice y.cases.a y.cases.n y.cases.c,.int .i64 y.els],.bool c] w (Yes w):=by
 obtain⟨q0,q1,q2,q3⟩:=he;have Y:y.cases.n=x.cases.n:=by
  rw[<-X.1,<-hy.1];exact(congrArg List.length q2).symm
 obtain⟨b,hW⟩:∃b,b=(w.alloc (.cells #[.int .i64 x.head,.int .i64 x.r.h,.int .i64 x.r.f,.slice x.cases.a x.cases.n x.cases.c,.int .i64 x.els] 51)).alloc (.cells #[.int .i64 y.head,.int .i64 y.r.h,.int .i64 y.r.f,.slice y.cases.a y.cases.n y.cases.c,.int .i64 y.els] 51):=⟨_,rfl⟩;obtain⟨B,h0⟩:∃B,B=w.heap.size:=⟨_,rfl⟩;obtain⟨N,h1⟩:∃N,N=w.heap.size+1:=⟨_,rfl⟩;have z0:b.cell? ⟨B,0,none⟩=some (.int .i64 x.head):=by rw[hW,h0];exact(zoe _ _ _ (by simp)).trans ((zod _ _ _ _ rfl).trans rfl)
 have z1:b.cell? ⟨B,1,none⟩=some (.int .i64 x.r.h):=by rw[hW,h0];exact(zoe _ _ _ (by simp)).trans ((zod _ _ _ _ rfl).trans rfl)
 have z2:b.cell? ⟨B,2,none⟩=some (.int .i64 x.r.f):=by rw[hW,h0];exact(zoe _ _ _ (by simp)).trans ((zod _ _ _ _ rfl).trans rfl)
 have j:b.cell? ⟨B,3,none⟩=some (.slice x.cases.a x.cases.n x.cases.c):=by rw[hW,h0];exact(zoe _ _ _ (by simp)).trans ((zod _ _ _ _ rfl).trans rfl)
 have z4:b.cell? ⟨B,4,none⟩=some (.int .i64 x.els):=by rw[hW,h0];exact(zoe _ _ _ (by simp)).trans ((zod _ _ _ _ rfl).trans rfl)
 have y0:b.cell? ⟨N,0,none⟩=some (.int .i64 y.head):=by rw[hW,h1];exact(zod _ _ _ _ (by simp)).trans rfl
 have y1:b.cell? ⟨N,1,none⟩=some (.int .i64 y.r.h):=by rw[hW,h1];exact(zod _ _ _ _ (by simp)).trans rfl
 have y2:b.cell? ⟨N,2,none⟩=some (.int .i64 y.r.f):=by rw[hW,h1];exact(zod _ _ _ _ (by simp)).trans rfl
 have g:b.cell? ⟨N,3,none⟩=some (.slice y.cases.a y.cases.n y.cases.c):=by rw[hW,h1];exact(zod _ _ _ _ (by simp)).trans rfl
 have y4:b.cell? ⟨N,4,none⟩=some (.int .i64 y.els):=by rw[hW,h1];exact(zod _ _ _ _ (by simp)).trans rfl
 have O:Hid (Below w.heap.size w b):=by rw[hW];exact ze (ze (zof _ _))
 have e:=hid hW;have s:=hid h0;have t:=hid h1;clear hW h0 h1;rw[show y.head=x.head from q0.symm]at y0 e
 rw[show y.els=x.els from q1.symm]at y4 e
 rw[Y]at g e;rw[show y.head=x.head from q0.symm,show y.els=x.els from q1.symm,Y]
 have HX:=hid (X.step CaseD.keeps O.out);have HY:=hid (hy.step CaseD.keeps O.out);have HN:=hid Y;have S:Hid (x.cs=y.cs):=q2;have A:x.p.cs.length=x.cases.n:=X.1;rw[A]at q3;have T:=hid q3;obtain⟨W,esa⟩:∃W,x.cases.a=W:=⟨_,rfl⟩;obtain⟨Z,eta⟩:∃Z,y.cases.a=Z:=⟨_,rfl⟩;rw[esa]at j e;rw[eta]at g e;rw[esa,eta];have U:=hid esa;have Q:=hid eta;have a1:((x.cases.n:Int) !=(x.cases.n:Int))=false:=by simp
 clear X hy q0 q1 q2 q3 Y A esa eta;by_cases hz:0<x.cases.n
 ·have a0:decide ((0:Int)<(x.cases.n:Int))=true:=zoY (by omega)
  have E:y.r=x.r:=(T.out (.inr hz)).symm;rw[E]at y1 y2 e;rw[E];clear T E;cases c with
  |false=>
   go_enter Tryz.func35,Tryz.ntmps35
   go_wp2;rw[<-e.out,<-t.out,<-s.out];clear e s t;go_loopw [7] (fun q wr=>∃k:Nat,k<=x.cases.n/\q=.int .i64 k/\Hid (Below b.heap.size b wr)) (fun q _=>x.cases.n-(intOf q).toNat)
   case atStart=>exact⟨0,zon _,rfl,zof _ _⟩
   case round=>
    obtain⟨k,hk,rfl,hb⟩:=hrel;have j:=za j hb.out;have g:=za g hb.out;by_cases d:k<x.cases.n
    ·have m:(k:Int)<(x.cases.n:Int):=by omega
     obtain⟨g1,o1,u,P,F,⟨u0,_⟩,⟨u1,_⟩,⟨u2,_⟩⟩:=zu (HX.out.step CaseD.keeps hb.out) d;obtain⟨g2,o2,v,R,V,⟨v0,_⟩,⟨v1,_⟩,⟨v2,_⟩⟩:=zu (HY.out.step CaseD.keeps hb.out) (show k<y.cases.n by rw[HN.out];exact d)
     obtain rfl:W=some ⟨g1,o1,none⟩:=by rw[<-U.out];exact P
     obtain rfl:Z=some ⟨g2,o2,none⟩:=by rw[<-Q.out];exact R
     obtain rfl:u=v:=by rw[S.out,V]at F;exact(zoq F).symm
     have C:=zm u0;have K:=zm u1;have M:=zm u2;have L:=zm v0;have J:=zm v1;have I:=zm v2;have G:=zm j;have H:=zm g;clear P R F V;go_wp2_with fail
     haveI inhB:∀w:World,Inhabited (zq w):=fun w=>⟨⟨w,zof _ _⟩⟩
     refine zi (by kernel_rfl) (by kernel_rfl) ?_
     repeat (go_big_quiet_step (fail))
     refine wpQuiet_nil ?_;intro wq D;obtain⟨⟨_,o⟩,i⟩:=D;subst i;have l:=hid (zh hb.out o);clear o hb C K M L J I G H;go_wp2;go_roundw
     case rel=>exact⟨k+1,by omega,by go_num,l⟩
     case measure=>simp[intOf];omega
    ·have m:¬(k:Int)<(x.cases.n:Int):=by omega
     have l:=hid (zh O.out hb.out);clear hb;go_wp2;go_ret;exact⟨rfl,l.out⟩
  |true=>
   go_enter Tryz.func35,Tryz.ntmps35
   go_wp2;rw[<-e.out,<-t.out,<-s.out];clear e s t;go_loopw [7] (fun q wr=>∃k:Nat,k<=x.cases.n/\q=.int .i64 k/\Hid (Below b.heap.size b wr)) (fun q _=>x.cases.n-(intOf q).toNat)
   case atStart=>exact⟨0,zon _,rfl,zof _ _⟩
   case round=>
    obtain⟨k,hk,rfl,hb⟩:=hrel;have j:=za j hb.out;have g:=za g hb.out;by_cases d:k<x.cases.n
    ·have m:(k:Int)<(x.cases.n:Int):=by omega
     obtain⟨g1,o1,u,P,F,⟨u0,_⟩,⟨u1,_⟩,⟨u2,_⟩⟩:=zu (HX.out.step CaseD.keeps hb.out) d;obtain⟨g2,o2,v,R,V,⟨v0,_⟩,⟨v1,_⟩,⟨v2,_⟩⟩:=zu (HY.out.step CaseD.keeps hb.out) (show k<y.cases.n by rw[HN.out];exact d)
     obtain rfl:W=some ⟨g1,o1,none⟩:=by rw[<-U.out];exact P
     obtain rfl:Z=some ⟨g2,o2,none⟩:=by rw[<-Q.out];exact R
     obtain rfl:u=v:=by rw[S.out,V]at F;exact(zoq F).symm
     have C:=zm u0;have K:=zm u1;have M:=zm u2;have L:=zm v0;have J:=zm v1;have I:=zm v2;have G:=zm j;have H:=zm g;clear P R F V;go_wp2_with fail
     haveI inhB:∀w:World,Inhabited (zq w):=fun w=>⟨⟨w,zof _ _⟩⟩
     refine zi (by kernel_rfl) (by kernel_rfl) ?_
     repeat (go_big_quiet_step (fail))
     refine wpQuiet_nil ?_;intro wq D;obtain⟨⟨_,o⟩,i⟩:=D;subst i;have l:=hid (zh hb.out o);clear o hb C K M L J I G H;go_wp2;go_roundw
     case rel=>exact⟨k+1,by omega,by go_num,l⟩
     case measure=>simp[intOf];omega
    ·have m:¬(k:Int)<(x.cases.n:Int):=by omega
     have l:=hid (zh O.out hb.out);clear hb;go_wp2;go_ret;exact⟨rfl,l.out⟩
 ·have a0:decide ((0:Int)<(x.cases.n:Int))=false:=zoX (by omega)
  cases c with
  |false=>
   have E:y.r=x.r:=(T.out (.inl rfl)).symm;rw[E]at y1 y2 e;rw[E];clear T E;go_enter Tryz.func35,Tryz.ntmps35
   go_wp2;rw[<-e.out,<-t.out,<-s.out];clear e s t;go_loopw [7] (fun q wr=>∃k:Nat,k<=x.cases.n/\q=.int .i64 k/\Hid (Below b.heap.size b wr)) (fun q _=>x.cases.n-(intOf q).toNat)
   case atStart=>exact⟨0,zon _,rfl,zof _ _⟩
   case round=>
    obtain⟨k,hk,rfl,hb⟩:=hrel;have j:=za j hb.out;have g:=za g hb.out;by_cases d:k<x.cases.n
    ·exact absurd d (by omega)
    ·have m:¬(k:Int)<(x.cases.n:Int):=by omega
     have l:=hid (zh O.out hb.out);clear hb;go_wp2;go_ret;exact⟨rfl,l.out⟩
  |true=>
   clear T;go_enter Tryz.func35,Tryz.ntmps35
   go_wp2;rw[<-e.out,<-t.out,<-s.out];clear e s t;go_loopw [7] (fun q wr=>∃k:Nat,k<=x.cases.n/\q=.int .i64 k/\Hid (Below b.heap.size b wr)) (fun q _=>x.cases.n-(intOf q).toNat)
   case atStart=>exact⟨0,zon _,rfl,zof _ _⟩
   case round=>
    obtain⟨k,hk,rfl,hb⟩:=hrel;have j:=za j hb.out;have g:=za g hb.out;by_cases d:k<x.cases.n
    ·exact absurd d (by omega)
    ·have m:¬(k:Int)<(x.cases.n:Int):=by omega
     have l:=hid (zh O.out hb.out);clear hb;go_wp2;go_ret;exact⟨rfl,l.out⟩
end Go.Proofs.YtbmcgbmegcpgnaaGreat
