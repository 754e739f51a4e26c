import Derived.Test.YtdajaaondlekfaaGreatG15
import Derived.Test.YtdajaaondlekfaaGreatG2
import Derived.Deep.RegionHeld3
import Derived.Deep.Onto
import Derived.Deep.AppendLies
import Derived.OneCell
set_option maxHeartbeats 16000000
set_option maxRecDepth 20000
set_option linter.unusedSimpArgs false
namespace Go.Proofs.YtdajaaondlekfaaGreat
open Go.RowKit
theorem zmy{ops:Array Oper}{o:Oper}{a:Act}{w:World}{K:Act->World->Prop}{Q:Exit->Act->World->Prop}{E:Prop}{T f:TypeId}{z:Value}{k bs:Nat}
 (D:Tryz.prog.underlying f=some (.slice T)) (b:(Tryz.prog.info? T).map (fun i=>(i.zero,i.size,i.bytes))=some (some z,k,bs)) (t:z.cells.size=k) (A:0<k) (m:bs<=1000) (l:o.guard=none) (s x:Operand)
 (y:o.op=.call {callee:=.builtin .append,args:= #[s,x],argTypes:= #[f,f]}) (base n c:Nat) (v:Value) (xs news:List Value) (ad:Addr)
 (hs:a.eval s=v) (G:a.eval x=.slice (some ad) 1 c) (e:w.ownsRow base T k v n xs) (J:news.length=k) (H:∀j u,news[j]?=some u->w.cell? (ad.add j)=some u) (C:∀u∈news,u.oneCell'=true) (I:n<=100000) (d:base<=w.heap.size)
 (h:∀v' w',w'.ownsRow base T k v' (n+1) (xs++news)->w.grownBy w' v.ownBlock->K (a.put o.dst v') w'):
 if Region.wanted o (yielded ops a.tmps)=true then Oper.wp Tryz.prog o a w K Q else E:=by
 have hw:Region.wanted o (yielded ops a.tmps)=true:=by simp[Region.wanted,l]
 rw[if_pos hw];obtain⟨F,hi,q,r,g⟩:=info_parts b;refine wp_append_own w s x f y base T F z k bs D hi q r g t A v n xs hs e ad 1 c news G (by omega) H C (by unfold maxLen;omega) ?_ d ?_
 ·have:(n+1)*bs<=100001*1000:=Nat.mul_le_mul (by omega) m
  omega
 ·intro v' w' h2 B _;exact h v' w' h2 B
def SayD.cells(s:SayD):List Value:=[.int .i64 s.act,.slice s.params.a s.params.n s.params.c]
theorem Tryz.infoSaying:(Tryz.prog.info? 296).map (fun i=>(i.zero,i.size,i.bytes))=some (some (.agg #[.int .i64 0,.slice none 0 0]),2,32):=by kernel_rfl
theorem flat_len(S:List SayD):(S.flatMap SayD.cells).length=S.length*2:=by
 induction S with
 |nil=>rfl
 |cons s S ih=>simp only[List.flatMap_cons,zor,ih,SayD.cells,List.length_cons,List.length_nil];omega
theorem zkt{S:List SayD}{i:Nat}{s:SayD}(h:S[i]?=some s):(S.flatMap SayD.cells)[i*2]?=some (.int .i64 s.act)/\(S.flatMap SayD.cells)[i*2+1]?=some (.slice s.params.a s.params.n s.params.c):=by
 induction S generalizing i with
 |nil=>simp at h
 |cons x S ih=>
  cases i with
  |zero=>
   simp only[List.getElem?_cons_zero,zoo]at h;subst h;exact⟨rfl,rfl⟩
  |succ i=>
   simp only[List.getElem?_cons_succ]at h;obtain⟨b,h2⟩:=ih h;rw[List.flatMap_cons,show(i+1)*2=i*2+2 by omega]
   exact⟨by rw[zoO (by simp[SayD.cells])];simpa[SayD.cells]using b,by rw[zoO (by simp[SayD.cells])];simpa[SayD.cells,show i*2+2+1-2=i*2+1 by omega]using h2⟩
def SayD.good(s:SayD)(base:Nat)(w:World):Prop:=(Lit.int .i64 s.act).wf=true/\(∀n∈s.ps,(Lit.int .i64 n).wf=true)/\w.ownsRow base 3 1 (.slice s.params.a s.params.n s.params.c) s.params.n (II s.ps)
theorem zlR{w:World}{base b g n cap:Nat}{S:List SayD}(h:w.ownsRow base 296 2 (.slice (some ⟨g,0,none⟩) n cap) n (S.flatMap SayD.cells))(f:∀s∈S,s.good b w):QRow 2 SayD.lie w ⟨some ⟨g,0,none⟩,n,cap⟩ S:=by
 have l:S.length=n:=by have:=h.1;rw[flat_len]at this;omega
 refine⟨l,fun i s hs=>⟨g,0,rfl,?_⟩⟩
 have hi:i<n:=by have:=(zok.1 hs).1;omega
 obtain⟨j,h2⟩:=zkt hs;obtain⟨m,k,c⟩:=f s (zol hs);rw[zoK];exact⟨⟨(h.cellAt (i*2) (by omega)).trans j,m⟩,⟨(h.cellAt (i*2+1) (by omega)).trans h2,fun e=>by obtain⟨_,_,a,_,d⟩:=jR c;simp only[zox,true_and]at a;obtain⟨rfl,rfl⟩:=a;exact d e⟩,kJ c k⟩
def ze0(al:List ActD)(l:List Int):List (Int × List Int):=l.map fun i=>(i,(al.getD i.toNat ActD.z).ws)
structure RulAt (w W2 wr : World) (kind : Int) (wl : List Int) (al : List ActD) (l : List Int) (p7 : Nat) (wa : Option Addr) (wc : Nat) (v : Value) (S : List SayD) : Prop where
 c0 : wr.cell? ⟨p7, 0, none⟩ = some (.int .i64 kind)
 c1 : wr.cell? ⟨p7, 1, none⟩ = some (.slice wa wl.length wc)
 c2 : wr.cell? ⟨p7, 2, none⟩ = some v
 fz : wr.frozen? ⟨p7, 2, none⟩ = false
 pw : w.heap.size + 2 <= p7
 bs : p7 + 1 <= wr.heap.size
 ws : wr.ownsRow (w.heap.size + 2) 3 1 (.slice wa wl.length wc) wl.length (II wl)
 wne : (Value.slice wa wl.length wc).ownBlock ≠ some p7
 wf : ∀ x ∈ wl, (Lit.int .i64 x).wf = true
 own : wr.ownsRow (p7 + 1) 296 2 v S.length (S.flatMap SayD.cells)
 good : ∀ s ∈ S, s.good (p7 + 1) wr
 says : S.map (fun s => (s.act, s.ps)) = ze0 al l
 bel : Below (w.heap.size + 2) W2 wr
theorem RulAt.form{w i wr:World}{kind:Int}{f:List Int}{al:List ActD}{l:List Int}{b:Nat}{j:Option Addr}{wc:Nat}{v:Value}{S:List SayD}(h:RulAt w i wr kind f al l b j wc v S):∃sa c,v=.slice sa S.length c/\(sa=none->S.length=0/\c=0):=by
 rcases h.own.2 with⟨e,a⟩|⟨g,c,d,e,_⟩
 ·exact⟨none,0,by rw[e,a],fun _=>⟨a,rfl⟩⟩
 ·exact⟨_,c,e,by simp⟩
theorem zbP{w:World}{k h n1 n2 g f:Nat}{t1 t2:TypeId}{v1 v2:Value}{m l:List Value}(j:w.ownsRow k t1 g v1 n1 m)(h2:w.ownsRow h t2 f v2 n2 l)(i:t1≠t2):v1.ownBlock=none\/v1.ownBlock≠v2.ownBlock:=by
 rcases j.2 with⟨rfl,_⟩|⟨o,c1,c,rfl,_,b,_⟩
 ·exact .inl rfl
 ·refine .inr fun e=>?_
  rcases h2.2 with⟨rfl,_⟩|⟨n,c2,d,rfl,_,a,_⟩
  ·simp[Value.ownBlock]at e
  ·simp only[Value.ownBlock,zoo]at e;subst e;rw[b]at a;simp only[zoo,Obj.cells.injEq]at a;exact i a.2.1
theorem RulAt.push{w K wr q u:World}{kind i:Int}{H ps:List Int}{al:List ActD}{l:List Int}{d m c5:Nat}{I t:Option Addr}{wc:Nat}{v v6:Value}{S:List SayD}(h:RulAt w K wr kind H al l d I wc v S)
 (hi:(Lit.int .i64 i).wf=true) (F:(al.getD i.toNat ActD.z).ws=ps) (E:∀n∈ps,(Lit.int .i64 n).wf=true) (D:Below wr.drew.heap.size wr.drew q) (B:q.ownsRow wr.drew.heap.size 3 1 (.slice t m c5) m (II ps))
 (C:u.ownsRow (d+1) 296 2 v6 (S.length+1) (S.flatMap SayD.cells++[.int .i64 i,.slice t m c5])) (f:(q.alloc (.cells #[.int .i64 i,.slice t m c5] 296)).grownBy u v.ownBlock):
 RulAt w K (u.setCell ⟨d,2,none⟩ v6) kind H al (l++[i]) d I wc v6 (S++[⟨i,⟨t,m,c5⟩,ps⟩]):=by
 have hd:Below wr.heap.size wr q:=(zof wr.heap.size wr).drew.trans D;have G:Below q.heap.size q (q.alloc (.cells #[.int .i64 i,.slice t m c5] 296)):=ze (zof _ _);have g:=zh hd G;have k:some d≠v.ownBlock:=fun e=>by have:=(h.own.lt d e.symm).1;omega
 have L:3≠296:=by decide
 have r:=zU h.own g;have cell:∀{o:Nat} {x:Value},wr.cell? ⟨d,o,none⟩=some x->u.cell? ⟨d,o,none⟩=some x:=fun A=>f.cell (za A g) k
 have keep:∀{b n c:Nat} {a:Option Addr} {xs:List Value},wr.ownsRow b 3 1 (.slice a n c) n xs->u.ownsRow b 3 1 (.slice a n c) n xs:=fun A=>(zU A g).kept f (zbP (zU A g) r L)
 have P:wr.heap.size<=u.heap.size:=zoz g.size f.size;have y:u.ownsRow (d+1) 3 1 (.slice t m c5) m (II ps):=by
  have J:q.ownsRow (d+1) 3 1 (.slice t m c5) m (II ps):=B.mono (by simpa using h.bs)
  exact(J.alloc _).kept f (zbP (J.alloc _) r L)
 refine⟨(zou _ _ _ _ (by simp)).trans (cell h.c0),(zou _ _ _ _ (by simp)).trans (cell h.c1),zot _ _ _ (cell h.c2),?_,h.pw,?_,?_,h.wne,h.wf,?_,?_,?_,?_⟩
 ·rw[World.frozen?_setCell,f.frozen_far ⟨d,2,none⟩ (by have:=h.bs;have:=g.size;show d<_;omega) k,g.frozen (p:=⟨d,2,none⟩) (by have:=h.bs;show d<_;omega)]
  exact h.fz
 ·rw[zow];have:=h.bs;omega
 ·exact ownsRow_setCell_other (keep h.ws) h.wne v6
 ·rw[zor,List.flatMap_append];exact ownsRow_setCell_below C (a:=⟨d,2,none⟩) (zoF _) v6
 ·intro s hs;rcases List.mem_append.1 hs with hs|hs
  ·obtain⟨R,T,Q⟩:=h.good s hs;exact⟨R,T,ownsRow_setCell_below (keep Q) (a:=⟨d,2,none⟩) (zoF _) v6⟩
  ·simp only[zoD,zoA,or_false]at hs;subst hs;exact⟨hi,E,ownsRow_setCell_below y (a:=⟨d,2,none⟩) (zoF _) v6⟩
 ·rw[List.map_append,h.says];simp only[ze0,List.map_append,List.map_cons,List.map_nil,F]
 ·have M:=h.pw;have N:=h.bs;refine zoV ?_ (by show w.heap.size+2<=d;omega) v6
  refine(h.bel.trans (g.mono (by omega))).grown f (by have:=g.size;omega) ?_
  intro j O;have:=(h.own.lt j O).1;omega
theorem zdC{w a wr:World}{o:Obj}(b:a=((w.alloc o).alloc (.cells #[.int .i64 0,.slice none 0 0,.slice none 0 0] 214)))(hb:Below (w.heap.size+2) a wr):
 (wr.cell? ⟨w.heap.size+1,0,none⟩=some (.int .i64 0)/\wr.cell? ⟨w.heap.size+1,1,none⟩=some (.slice none 0 0)/\wr.cell? ⟨w.heap.size+1,2,none⟩=some (.slice none 0 0))/\(wr.frozen? ⟨w.heap.size+1,0,none⟩=false/\wr.frozen? ⟨w.heap.size+1,1,none⟩=false/\wr.frozen? ⟨w.heap.size+1,2,none⟩=false):=by
 subst b;have c:∀i,wr.cell? ⟨w.heap.size+1,i,none⟩=(#[.int .i64 0,.slice none 0 0,.slice none 0 0]:Array Value)[i]?:=fun i=>(hb.cell (p:=⟨w.heap.size+1,i,none⟩) (by simp)).trans (zod _ _ _ _ (by simp))
 have f:∀i,wr.frozen? ⟨w.heap.size+1,i,none⟩=false:=fun i=>(hb.frozen (p:=⟨w.heap.size+1,i,none⟩) (by simp)).trans (zoB _ _ _ _ (by simp))
 exact⟨⟨c 0,c 1,c 2⟩,f 0,f 1,f 2⟩
theorem ze1{w:World}{base e k n:Nat}{v:Value}{xs:List Value}(h:w.ownsRow base e k v n xs):∃a c,v=.slice a n c:=by
 rcases h.2 with⟨e,d⟩|⟨g,c,b,e,_⟩
 ·exact⟨none,0,by rw[e,d]⟩
 ·exact⟨_,c,e⟩
theorem zg6(w:World)(x:Int)(y:Value):∀(j:Nat) (u:Value),([.int .i64 x,y]:List Value)[j]?=some u->(w.alloc (.cells #[.int .i64 x,y] 296)).cell? ((⟨w.heap.size,0,none⟩:Addr).add j)=some u:=by
 intro j u a;rw[Addr.add_lit,zoK,zod _ _ _ _ rfl];simpa using a
theorem ze2{w wr c:World}{a n:Nat}{v u:Value}{xs:List Value}{o:Obj}(f:wr.ownsRow (a+1) 296 2 v n xs)(d:(w.alloc o).grownBy c v.ownBlock)(h:a<w.heap.size)(g:w.cell? ⟨a,2,none⟩=some u)(hf:w.frozen? ⟨a,2,none⟩=false):c.cell? ⟨a,2,none⟩=some u/\c.frozen? ⟨a,2,none⟩=false:=by
 have b:some a≠v.ownBlock:=fun e=>by have:=(f.lt a e.symm).1;omega
 exact⟨d.cell (za g (ze (zof _ _))) b,by rw[d.frozen_far ⟨a,2,none⟩ (by simp;omega) b,(ze (o:=o) (zof w.heap.size w)).frozen (p:=⟨a,2,none⟩) h];exact hf⟩
theorem zil{w b c:World}{kind:Int}{d:List Int}{al:List ActD}{g:Option Addr}{n a:Nat}(hs:b.heap.size=w.heap.size+2)(j:d.length=n)(hb:Below b.drew.heap.size b.drew c)(h:c.ownsRow b.drew.heap.size 3 1 (.slice g n a) n (II d))(f:∀x∈d,(Lit.int .i64 x).wf=true):
 RulAt w b (c.alloc (.cells #[.int .i64 kind,.slice g n a,.slice none 0 0] 214)) kind d al [] c.heap.size g a (.slice none 0 0) []:=by
 subst j;have i:w.heap.size+2<=c.heap.size:=by have:=hb.size;simpa[hs]using this
 exact⟨(zod _ _ _ _ rfl).trans rfl,(zod _ _ _ _ rfl).trans rfl,(zod _ _ _ _ rfl).trans rfl,zoB _ _ _ _ rfl,i,by simp,((h.mono (by simp[hs])).alloc _),fun e=>absurd (h.lt _ e).2 (Nat.lt_irrefl _),f,zoH _ _ _ _,by simp,rfl,
  ((((zof b.heap.size b).drew).trans hb).mono (by omega)).alloc i _⟩
abbrev RZ:Obj:=.cells #[.int .i64 0,.slice none 0 0,.slice none 0 0] 214
theorem ze3{b a:World}{n:Nat}(e:b.heap.size=n)(d:Below (b.drew.alloc RZ).heap.size (b.drew.alloc RZ) a):
 (a.cell? ⟨n,0,none⟩=some (.int .i64 0)/\a.cell? ⟨n,1,none⟩=some (.slice none 0 0)/\a.cell? ⟨n,2,none⟩=some (.slice none 0 0))/\(a.frozen? ⟨n,0,none⟩=false/\a.frozen? ⟨n,1,none⟩=false/\a.frozen? ⟨n,2,none⟩=false)/\n<a.heap.size:=by
 subst e;have hs:b.heap.size<(b.drew.alloc RZ).heap.size:=by simp
 have c:∀i,a.cell? ⟨b.heap.size,i,none⟩=(#[.int .i64 0,.slice none 0 0,.slice none 0 0]:Array Value)[i]?:=fun i=>(d.cell (p:=⟨b.heap.size,i,none⟩) hs).trans (zod _ _ _ _ rfl)
 have f:∀i,a.frozen? ⟨b.heap.size,i,none⟩=false:=fun i=>(d.frozen (p:=⟨b.heap.size,i,none⟩) hs).trans (zoB _ _ _ _ rfl)
 exact⟨⟨c 0,c 1,c 2⟩,⟨f 0,f 1,f 2⟩,zom hs d.size⟩
theorem zim{w c d:World}{kind:Int}{f:List Int}{al:List ActD}{h:Option Addr}{n b:Nat}(hs:c.heap.size=w.heap.size+2)(m:f.length=n)(hb:Below (c.drew.alloc (.cells #[.int .i64 0,.slice none 0 0,.slice none 0 0] 214)).heap.size (c.drew.alloc (.cells #[.int .i64 0,.slice none 0 0,.slice none 0 0] 214)) d)(i:d.ownsRow (c.drew.alloc (.cells #[.int .i64 0,.slice none 0 0,.slice none 0 0] 214)).heap.size 3 1 (.slice h n b) n (II f))(j:∀x∈f,(Lit.int .i64 x).wf=true):
 RulAt w c (((d.setCell ⟨w.heap.size+2,0,none⟩ (.int .i64 kind)).setCell ⟨w.heap.size+2,1,none⟩ (.slice h n b)).setCell ⟨w.heap.size+2,2,none⟩ (.slice none 0 0)) kind f al [] (w.heap.size+2) h b (.slice none 0 0) []:=by
 subst m;obtain⟨⟨r0,r1,r⟩,⟨f0,f1,f2⟩,o⟩:=ze3 hs hb;have g:(c.drew.alloc (.cells #[.int .i64 0,.slice none 0 0,.slice none 0 0] 214)).heap.size=w.heap.size+3:=by simp[hs]
 rw[g]at i;have s0:((d.setCell ⟨w.heap.size+2,0,none⟩ (.int .i64 kind)).setCell ⟨w.heap.size+2,1,none⟩ (.slice h f.length b)).cell? ⟨w.heap.size+2,2,none⟩=some (.slice none 0 0):=(zou _ _ _ _ (by simp)).trans ((zou _ _ _ _ (by simp)).trans r)
 have s1:(d.setCell ⟨w.heap.size+2,0,none⟩ (.int .i64 kind)).cell? ⟨w.heap.size+2,1,none⟩=some (.slice none 0 0):=(zou _ _ _ _ (by simp)).trans r1
 have l:=ownsRow_setCell_below i (a:=⟨w.heap.size+2,0,none⟩) (by show w.heap.size+2<w.heap.size+3;omega) (.int .i64 kind)
 have s:=ownsRow_setCell_below l (a:=⟨w.heap.size+2,1,none⟩) (by show w.heap.size+2<w.heap.size+3;omega) (.slice h f.length b)
 have k:=ownsRow_setCell_below s (a:=⟨w.heap.size+2,2,none⟩) (by show w.heap.size+2<w.heap.size+3;omega) (.slice none 0 0)
 have q:Below (w.heap.size+2) c d:=(((zof c.heap.size c).drew.mono (by omega)).alloc (by simp[hs]) _).trans (hb.mono (by rw[g];omega))
 exact⟨(zou _ _ _ _ (by simp)).trans ((zou _ _ _ _ (by simp)).trans (zot _ _ _ r0)),(zou _ _ _ _ (by simp)).trans (zot _ _ _ s1),zot _ _ _ s0,by simpa using f2,zos _,by simp;omega,k.mono (by omega),fun e=>absurd (i.lt _ e).1 (by omega),j,zoH _ _ _ _,by simp,rfl,
  ((q.setCell (by simp) _).setCell (by simp) _).setCell (by simp) _⟩
@[reducible] def TabD.box'(t:TabD):Obj:=.cells #[.int .i64 t.kind,.slice t.keys.a t.keys.n t.keys.c,.slice t.acts.a t.acts.n t.acts.c,.int .i64 t.cap,.int .i64 t.dflt,.slice t.args.a t.args.n t.args.c] 69
@[reducible] def TabD.v'(t:TabD):Value:=.agg #[.int .i64 t.kind,.slice t.keys.a t.keys.n t.keys.c,.slice t.acts.a t.acts.n t.acts.c,.int .i64 t.cap,.int .i64 t.dflt,.slice t.args.a t.args.n t.args.c]
def kD(kind:Int)(b:List Int)(al:List ActD)(l:List Int)(w:World)(e:Ending)(w':World):Prop:=
 ∃d wc m S,e=.returned (.agg #[.int .i64 kind,.slice d b.length wc,.slice (QSl.a m) (QSl.n m) (QSl.c m)])/\Has .i64 w' d b.length b/\QRow 2 SayD.lie w' m S/\S.map (fun s=>(s.act,s.ps))=ze0 al l/\Below w.heap.size w w'/\w'.ownsRow w.heap.size 3 1 (.slice d b.length wc) b.length (II b)/\w'.ownsRow w.heap.size 296 2 (.slice (QSl.a m) (QSl.n m) (QSl.c m)) S.length (S.flatMap SayD.cells)/\∀s∈S,s.good w.heap.size w'
theorem zg7{w u wr:World}{kind:Int}{m:List Int}{al:List ActD}{l:List Int}{x:Nat}{q sa:Option Addr}{wc sc:Nat}{S:List SayD}(h:RulAt w u wr kind m al l x q wc (.slice sa S.length sc) S)(C:Below w.heap.size w u)(d f i:Value):
 kD kind m al l w (.returned (.agg #[.int .i64 kind,.slice q m.length wc,.slice sa S.length sc])) (((wr.setCell ⟨w.heap.size+1,0,none⟩ d).setCell ⟨w.heap.size+1,1,none⟩ f).setCell ⟨w.heap.size+1,2,none⟩ i):=by
 have j:∀{b n k:Nat} {t:TypeId} {v:Value} {xs:List Value},w.heap.size+1<b->wr.ownsRow b t k v n xs->(((wr.setCell ⟨w.heap.size+1,0,none⟩ d).setCell ⟨w.heap.size+1,1,none⟩ f).setCell ⟨w.heap.size+1,2,none⟩ i).ownsRow b t k v n xs:=fun hb y=>
  ownsRow_setCell_below (ownsRow_setCell_below (ownsRow_setCell_below y (a:=⟨w.heap.size+1,0,none⟩) hb d) (a:=⟨w.heap.size+1,1,none⟩) hb f) (a:=⟨w.heap.size+1,2,none⟩) hb i
 have D:=h.pw;have r:=j (by omega) h.ws
 have o:=j (by omega) h.own
 have bl:Below w.heap.size w (((wr.setCell ⟨w.heap.size+1,0,none⟩ d).setCell ⟨w.heap.size+1,1,none⟩ f).setCell ⟨w.heap.size+1,2,none⟩ i):=(((C.trans (h.bel.mono (by omega))).setCell (by simp) _).setCell (by simp) _).setCell (by simp) _
 refine⟨q,wc,⟨sa,S.length,sc⟩,S,rfl,kJ r h.wf,?_,h.says,bl,r.mono (by omega),o.mono (by omega),fun s hs=>⟨(h.good s hs).1,(h.good s hs).2.1,(j (by omega) (h.good s hs).2.2).mono (by omega)⟩⟩
 rcases o.2 with⟨e,A⟩|⟨g,c,B,e,_⟩
 ·have:S=[]:=zoG A;subst this;exact⟨rfl,by simp⟩
 ·simp only[zox]at e;obtain⟨rfl,_,rfl⟩:=e;exact zlR o (fun s hs=>⟨(h.good s hs).1,(h.good s hs).2.1,j (by omega) (h.good s hs).2.2⟩)
theorem ze4(t:TabD)(wq:QSl)(o:List Int)(O:QSl)(al:List ActD)(w:World)(hw:Has .i64 w wq.a wq.n o)(b6:wq.nil0)(e0:wq.n<=100000)(ht:Has .i64 w t.acts.a t.acts.n t.al)(d9:t.acts.n<=10000)(ha:QRow 2 ActD.lie w O al)(b5:∀i∈t.al,0<=i/\i<(O.n:Int))(U:∀x∈al,x.w.n<=100000):
 Calls Tryz.prog 209 #[t.v',.slice wq.a wq.n wq.c,.slice O.a O.n O.c] w (kD t.kind o al t.al w):=by
 obtain⟨A,hW⟩:∃A,A=((w.alloc t.box').alloc RZ):=⟨_,rfl⟩;obtain⟨b0,h0⟩:∃b0,b0=w.heap.size:=⟨_,rfl⟩;obtain⟨P,h1⟩:∃P,P=w.heap.size+1:=⟨_,rfl⟩;have z0:A.cell? ⟨b0,0,none⟩=some (.int .i64 t.kind):=by rw[hW,h0];exact(zoe _ _ _ (by simp)).trans ((zod _ _ _ _ rfl).trans rfl)
 have z2:A.cell? ⟨b0,2,none⟩=some (.slice t.acts.a t.acts.n t.acts.c):=by rw[hW,h0];exact(zoe _ _ _ (by simp)).trans ((zod _ _ _ _ rfl).trans rfl)
 have HB:Hid (Below w.heap.size w A):=by rw[hW];exact ze (ze (zof _ _))
 have a0:A.heap.size=w.heap.size+2:=by rw[hW];simp
 have b8:=hid ((hw.step HB.out).step (zof A.heap.size A).drew);have E2:=hid hW;have E0:=hid h0;have E1:=hid h1;have V:=hid ht;have HA:=hid ha;have b2:=hid b5;have b7:=hid U;have d1:=hid b6;have c4:=hid hw.1;have b4:=hid hw.2.1;obtain⟨qa,eqa⟩:∃qa,O.a=qa:=⟨_,rfl⟩;rw[eqa];have c3:=hid eqa;clear hW h0 h1 hw ht ha b5 U b6 eqa;go_enter Tryz.func209,Tryz.ntmps209
 go_wp2_with fail
 rw[<-E2.out,<-E1.out,<-E0.out];have d8:¬(w.heap.size+2=b0):=by rw[E0.out];omega
 have d3:¬(b0=w.heap.size+2):=by rw[E0.out];omega
 go_region_held3 (fun w'=>w'.cell? ⟨b0,0,none⟩=some (.int .i64 t.kind))
  (first
   |go_keep
   |exact za (by assumption) G
   |exact za (za (w:=A.drew) z0 G) (ze (zof _ _)))
  (first
   |(refine zky rfl _ _ rfl wq.n wq.c o wq.a (by simp[Act.eval]) (by simp[Act.eval]) d1.out (by first|exact b8.out|exact b8.out.alloc) (by omega) ?_;intro v1 w1 h G;obtain⟨C,b,rfl,T,b3⟩:=jR h;(first|(have RC:=ze3 a0 G;have e3:=RC.1.1;have e1:=RC.1.2.1;have d6:=RC.1.2.2;have e2:=RC.2.1.1;have d7:=RC.2.1.2.1;have d5:=RC.2.1.2.2;have d4:=RC.2.2)|skip)))
 ·obtain⟨Q,hWR⟩:∃Q,Q=w1.alloc (.cells #[.int .i64 t.kind,.slice C wq.n b,.slice none 0 0] 214):=⟨_,rfl⟩;obtain⟨l,e⟩:∃l,l=w1.heap.size:=⟨_,rfl⟩;have H:Hid (RulAt w A Q t.kind o al [] l C b (.slice none 0 0) []):=by
   show RulAt w A Q t.kind o al [] l C b (.slice none 0 0) [];rw[hWR,e];exact zil a0 c4.out G h b4.out
  rw[<-hWR,<-e];have M:=hid H.out.bel;have zb:=(M.out.cell (p:=⟨b0,2,none⟩) (by rw[E0.out];simp)).trans z2
  clear hWR e G h b3 T;obtain⟨ta,eta⟩:∃ta,t.acts.a=ta:=⟨_,rfl⟩;rw[eta]at zb;have a7:=hid eta;clear eta;go_wp2;go_loopw [18,9] (fun q _ wr=>∃k:Nat,∃v S,k<=t.acts.n/\q=.int .i64 k/\Hid (RulAt w A wr t.kind o al (t.al.take k) l C b v S)) (fun q _ _=>t.acts.n-(intOf q).toNat)
  case atStart=>exact⟨0,_,_,zon _,rfl,H⟩
  case round=>
   obtain⟨k,v,S,hk,rfl,d⟩:=hrel;clear H M zb;have R:Hid (Below w.heap.size w wr):=HB.out.trans (d.out.bel.mono (by omega))
   have K:S.length=k:=by
    have h1:=congrArg List.length d.out.says;simp only[zoE,ze0,List.length_take,V.out.1]at h1;omega
   have a9:=hid K;clear K;obtain⟨sa,sc,rfl,_⟩:=d.out.form;by_cases a3:k<t.acts.n
   ·obtain⟨g,off,i,J,hi,r0⟩:=xQ (V.out.step R.out) a3;obtain rfl:ta=some ⟨g,off,none⟩:=by rw[<-a7.out];exact J
    have c9:(k:Int)<(t.acts.n:Int):=by omega
    have m:=zol hi;obtain⟨Y,a4⟩:=b2.out i m;obtain⟨j,rfl⟩:∃j:Nat,i=j:=⟨i.toNat,by omega⟩
    obtain⟨ag,L,x,B,hx,⟨c0,r⟩,_,y,_⟩:=zu (HA.out.step ActD.keeps R.out) (show j<O.n by omega)
    obtain rfl:qa=some ⟨ag,L,none⟩:=by rw[<-c3.out];exact B
    have d0:(j:Int)<(O.n:Int):=by omega
    have c8:x.w.n<=100000:=b7.out x (zol hx);have HX:=hid (y.step (zof wr.heap.size wr).drew);have s:=hid r;have y2:=d.out.c2;have yf:=d.out.fz;have e:l<wr.heap.size:=by have:=d.out.bs;omega
    have Z:=hid (V.out.2.1 _ m);have a2:Hid ((al.getD ((j:Int)).toNat ActD.z).ws=x.ws):=by
     show(al.getD ((j:Int)).toNat ActD.z).ws=x.ws;rw[zov,zoi,hx];rfl
    have a8:Hid (t.al.take k++[(j:Int)]=t.al.take (k+1)):=by
     show t.al.take k++[(j:Int)]=t.al.take (k+1);rw[zoI,hi];rfl
    clear J B hi hx m r y Y a4;go_wp2_with fail
    go_region_law (first
     |(refine zky rfl _ _ rfl x.w.n x.w.c x.ws x.w.a (by simp[Act.eval]) (by simp[Act.eval]) s.out HX.out (by omega) ?_;intro v5 W D f;obtain⟨a5,c5,rfl,b9,d2⟩:=jR D;have y5:=za (w:=wr.drew) y2 f;have I:=(f.frozen (p:=⟨l,2,none⟩) e).trans yf;have N:l<W.heap.size:=zom e f.size)
     |(refine zmy Tryz.underlying212 Tryz.infoSaying rfl (by decide) (by decide) rfl _ _ rfl (l+1) S.length 1 (.slice sa S.length sc) (S.flatMap SayD.cells) [.int .i64 (j:Int),.slice a5 x.w.n c5] ⟨W.heap.size,0,none⟩ (by simp[Act.eval]) (by simp[Act.eval]) ((zU (zU d.out.own ((zof wr.heap.size wr).drew)) f).alloc _) rfl (zg6 W _ _) (by intro u hu;simp only[zoD,zoA,or_false]at hu;rcases hu with rfl|rfl<;>rfl) (by have:=a9.out;omega) (by simp;omega) ?_;intro v6 w6 F E;obtain⟨a6,c6,rfl⟩:=ze1 F;obtain⟨y6,X⟩:=ze2 d.out.own E N y5 I))
    all_goals
     have RN:Hid (RulAt w A (w6.setCell ⟨l,2,none⟩ (.slice a6 (S.length+1) c6)) t.kind o al (t.al.take (k+1)) l C b (.slice a6 (S.length+1) c6) (S++[⟨(j:Int),⟨a5,x.w.n,c5⟩,x.ws⟩])):=by
      rw[<-a8.out];exact d.out.push Z.out a2.out HX.out.2.1 f D F E
     clear D F E f y2 yf y5 I y6 X d HX s r0 c0 R;go_wp2;go_roundw
     case rel=>exact⟨k+1,_,_,by omega,by go_num,RN⟩
     case measure=>simp[intOf];omega
   ·have ek:k=t.acts.n:=by omega
    have c0:=d.out.c0;have c1:=d.out.c1;have c2:=d.out.c2;have hr:=zdC E2.out d.out.bel;rw[<-E1.out]at hr;obtain⟨⟨q0,q1,q2⟩,f0,f1,f2⟩:=hr;have HF:Hid (kD t.kind o al t.al w (.returned (.agg #[.int .i64 t.kind,.slice C o.length b,.slice sa S.length sc])) (((wr.setCell ⟨P,0,none⟩ (.int .i64 t.kind)).setCell ⟨P,1,none⟩ (.slice C o.length b)).setCell ⟨P,2,none⟩ (.slice sa S.length sc))):=by
     show kD t.kind o al t.al w _ _;have hl:t.al.take k=t.al:=List.take_of_length_le (by rw[V.out.1];omega)
     have RB:=d.out;rw[hl]at RB;rw[E1.out];exact zg7 RB HB.out _ _ _
    have sb:P<wr.heap.size:=zog wr _ q0;clear d R;subst ek;go_wp2;exact bodyPost_ret (v:=.agg #[.int .i64 t.kind,.slice C o.length b,.slice sa S.length sc]) (by simp[results,Tryz.results209,go_sem, *]) rfl HF.out
 ·obtain⟨Q,hWR⟩:∃Q,Q=((w1.setCell ⟨w.heap.size+2,0,none⟩ (.int .i64 t.kind)).setCell ⟨w.heap.size+2,1,none⟩ (.slice C wq.n b)).setCell ⟨w.heap.size+2,2,none⟩ (.slice none 0 0):=⟨_,rfl⟩;obtain⟨l,e⟩:∃l,l=w.heap.size+2:=⟨_,rfl⟩;have H:Hid (RulAt w A Q t.kind o al [] l C b (.slice none 0 0) []):=by
   show RulAt w A Q t.kind o al [] l C b (.slice none 0 0) [];rw[hWR,e];exact zim a0 c4.out G h b4.out
  rw[<-hWR,<-e];have M:=hid H.out.bel;have zb:=(M.out.cell (p:=⟨b0,2,none⟩) (by rw[E0.out];simp)).trans z2
  clear hWR e G h b3 T;obtain⟨ta,eta⟩:∃ta,t.acts.a=ta:=⟨_,rfl⟩;rw[eta]at zb;have a7:=hid eta;clear eta;go_wp2;go_loopw [18,9] (fun q _ wr=>∃k:Nat,∃v S,k<=t.acts.n/\q=.int .i64 k/\Hid (RulAt w A wr t.kind o al (t.al.take k) l C b v S)) (fun q _ _=>t.acts.n-(intOf q).toNat)
  case atStart=>exact⟨0,_,_,zon _,rfl,H⟩
  case round=>
   obtain⟨k,v,S,hk,rfl,d⟩:=hrel;clear H M zb;have R:Hid (Below w.heap.size w wr):=HB.out.trans (d.out.bel.mono (by omega))
   have K:S.length=k:=by
    have h1:=congrArg List.length d.out.says;simp only[zoE,ze0,List.length_take,V.out.1]at h1;omega
   have a9:=hid K;clear K;obtain⟨sa,sc,rfl,_⟩:=d.out.form;by_cases a3:k<t.acts.n
   ·obtain⟨g,off,i,J,hi,r0⟩:=xQ (V.out.step R.out) a3;obtain rfl:ta=some ⟨g,off,none⟩:=by rw[<-a7.out];exact J
    have c9:(k:Int)<(t.acts.n:Int):=by omega
    have m:=zol hi;obtain⟨Y,a4⟩:=b2.out i m;obtain⟨j,rfl⟩:∃j:Nat,i=j:=⟨i.toNat,by omega⟩
    obtain⟨ag,L,x,B,hx,⟨c0,r⟩,_,y,_⟩:=zu (HA.out.step ActD.keeps R.out) (show j<O.n by omega)
    obtain rfl:qa=some ⟨ag,L,none⟩:=by rw[<-c3.out];exact B
    have d0:(j:Int)<(O.n:Int):=by omega
    have c8:x.w.n<=100000:=b7.out x (zol hx);have HX:=hid (y.step (zof wr.heap.size wr).drew);have s:=hid r;have y2:=d.out.c2;have yf:=d.out.fz;have e:l<wr.heap.size:=by have:=d.out.bs;omega
    have Z:=hid (V.out.2.1 _ m);have a2:Hid ((al.getD ((j:Int)).toNat ActD.z).ws=x.ws):=by
     show(al.getD ((j:Int)).toNat ActD.z).ws=x.ws;rw[zov,zoi,hx];rfl
    have a8:Hid (t.al.take k++[(j:Int)]=t.al.take (k+1)):=by
     show t.al.take k++[(j:Int)]=t.al.take (k+1);rw[zoI,hi];rfl
    clear J B hi hx m r y Y a4;go_wp2_with fail
    go_region_law (first
     |(refine zky rfl _ _ rfl x.w.n x.w.c x.ws x.w.a (by simp[Act.eval]) (by simp[Act.eval]) s.out HX.out (by omega) ?_;intro v5 W D f;obtain⟨a5,c5,rfl,b9,d2⟩:=jR D;have y5:=za (w:=wr.drew) y2 f;have I:=(f.frozen (p:=⟨l,2,none⟩) e).trans yf;have N:l<W.heap.size:=zom e f.size)
     |(refine zmy Tryz.underlying212 Tryz.infoSaying rfl (by decide) (by decide) rfl _ _ rfl (l+1) S.length 1 (.slice sa S.length sc) (S.flatMap SayD.cells) [.int .i64 (j:Int),.slice a5 x.w.n c5] ⟨W.heap.size,0,none⟩ (by simp[Act.eval]) (by simp[Act.eval]) ((zU (zU d.out.own ((zof wr.heap.size wr).drew)) f).alloc _) rfl (zg6 W _ _) (by intro u hu;simp only[zoD,zoA,or_false]at hu;rcases hu with rfl|rfl<;>rfl) (by have:=a9.out;omega) (by simp;omega) ?_;intro v6 w6 F E;obtain⟨a6,c6,rfl⟩:=ze1 F;obtain⟨y6,X⟩:=ze2 d.out.own E N y5 I))
    all_goals
     have RN:Hid (RulAt w A (w6.setCell ⟨l,2,none⟩ (.slice a6 (S.length+1) c6)) t.kind o al (t.al.take (k+1)) l C b (.slice a6 (S.length+1) c6) (S++[⟨(j:Int),⟨a5,x.w.n,c5⟩,x.ws⟩])):=by
      rw[<-a8.out];exact d.out.push Z.out a2.out HX.out.2.1 f D F E
     clear D F E f y2 yf y5 I y6 X d HX s r0 c0 R;go_wp2;go_roundw
     case rel=>exact⟨k+1,_,_,by omega,by go_num,RN⟩
     case measure=>simp[intOf];omega
   ·have ek:k=t.acts.n:=by omega
    have c0:=d.out.c0;have c1:=d.out.c1;have c2:=d.out.c2;have hr:=zdC E2.out d.out.bel;rw[<-E1.out]at hr;obtain⟨⟨q0,q1,q2⟩,f0,f1,f2⟩:=hr;have HF:Hid (kD t.kind o al t.al w (.returned (.agg #[.int .i64 t.kind,.slice C o.length b,.slice sa S.length sc])) (((wr.setCell ⟨P,0,none⟩ (.int .i64 t.kind)).setCell ⟨P,1,none⟩ (.slice C o.length b)).setCell ⟨P,2,none⟩ (.slice sa S.length sc))):=by
     show kD t.kind o al t.al w _ _;have hl:t.al.take k=t.al:=List.take_of_length_le (by rw[V.out.1];omega)
     have RB:=d.out;rw[hl]at RB;rw[E1.out];exact zg7 RB HB.out _ _ _
    have sb:P<wr.heap.size:=zog wr _ q0;clear d R;subst ek;go_wp2;exact bodyPost_ret (v:=.agg #[.int .i64 t.kind,.slice C o.length b,.slice sa S.length sc]) (by simp[results,Tryz.results209,go_sem, *]) rfl HF.out
end Go.Proofs.YtdajaaondlekfaaGreat
