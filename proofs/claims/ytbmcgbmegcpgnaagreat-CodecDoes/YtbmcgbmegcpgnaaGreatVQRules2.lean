import Derived.Test.YtbmcgbmegcpgnaaGreatVQRules
import Derived.Test.YtbmcgbmegcpgnaaGreatG1
import Derived.Deep.RegionHeld3
import Derived.Deep.Onto
import Derived.Deep.AppendLies
import Derived.OneCell
set_option maxHeartbeats 16000000
set_option maxRecDepth 20000
set_option linter.unusedSimpArgs false
namespace Go.Proofs.YtbmcgbmegcpgnaaGreat
open Go.RowKit
theorem zmy{ops:Array Oper}{o:Oper}{a:Act}{w:World}{K:Act->World->Prop}{Q:Exit->Act->World->Prop}{E:Prop}{T f:TypeId}{z:Value}{k bs:Nat}
 (L:Tryz.prog.underlying f=some (.slice T)) (d:(Tryz.prog.info? T).map (fun i=>(i.zero,i.size,i.bytes))=some (some z,k,bs)) (m:z.cells.size=k) (A:0<k) (t:bs<=1000) (g:o.guard=none) (s x:Operand)
 (I:o.op=.call {callee:=.builtin .append,args:= #[s,x],argTypes:= #[f,f]}) (base n c:Nat) (v:Value) (l news:List Value) (ad:Addr)
 (hs:a.eval s=v) (B:a.eval x=.slice (some ad) 1 c) (e:w.ownsRow base T k v n l) (M:news.length=k) (G:∀j u,news[j]?=some u->w.cell? (ad.add j)=some u) (F:∀u∈news,u.oneCell'=true) (C:n<=100000) (b:base<=w.heap.size)
 (h:∀v' w',w'.ownsRow base T k v' (n+1) (l++news)->w.grownBy w' v.ownBlock->K (a.put o.dst v') w'):
 if Region.wanted o (yielded ops a.tmps)=true then Oper.wp Tryz.prog o a w K Q else E:=by
 have hw:Region.wanted o (yielded ops a.tmps)=true:=by simp[Region.wanted,g]
 rw[if_pos hw];obtain⟨J,hi,r,q,y⟩:=info_parts d;refine wp_append_own w s x f I base T J z k bs L hi r q y m A v n l hs e ad 1 c news B (by omega) G F (by unfold maxLen;omega) ?_ b ?_
 ·have:(n+1)*bs<=100001*1000:=Nat.mul_le_mul (by omega) t
  omega
 ·intro v' w' D H _;exact h v' w' D H
def SayD.cells(s:SayD):List Value:=[.int .i64 s.act,.slice s.params.a s.params.n s.params.c]
theorem Tryz.infoSaying:(Tryz.prog.info? 202).map (fun i=>(i.zero,i.size,i.bytes))=some (some (.agg #[.int .i64 0,.slice none 0 0]),2,32):=by kernel_rfl
theorem flat_len(S:List SayD):(S.flatMap SayD.cells).length=S.length*2:=by
 induction S with
 |nil=>rfl
 |cons s S ih=>simp only[zvw,List.length_append,ih,SayD.cells,zvv,List.length_nil];omega
theorem zkt{S:List SayD}{i:Nat}{s:SayD}(h:S[i]?=some s):(S.flatMap SayD.cells)[i*2]?=some (.int .i64 s.act)/\(S.flatMap SayD.cells)[i*2+1]?=some (.slice s.params.a s.params.n s.params.c):=by
 induction S generalizing i with
 |nil=>simp at h
 |cons x S ih=>
  cases i with
  |zero=>
   simp only[List.getElem?_cons_zero,zoo]at h;subst h;exact⟨rfl,rfl⟩
  |succ i=>
   simp only[List.getElem?_cons_succ]at h;obtain⟨d,b⟩:=ih h;rw[zvw,show(i+1)*2=i*2+2 by omega]
   exact⟨by rw[zoO (by simp[SayD.cells])];simpa[SayD.cells]using d,by rw[zoO (by simp[SayD.cells])];simpa[SayD.cells,show i*2+2+1-2=i*2+1 by omega]using b⟩
def SayD.good(s:SayD)(base:Nat)(w:World):Prop:=(Lit.int .i64 s.act).wf=true/\(∀n∈s.ps,(Lit.int .i64 n).wf=true)/\w.ownsRow base 3 1 (.slice s.params.a s.params.n s.params.c) s.params.n (II s.ps)
theorem zlR{w:World}{base b g n cap:Nat}{S:List SayD}(h:w.ownsRow base 202 2 (.slice (some ⟨g,0,none⟩) n cap) n (S.flatMap SayD.cells))(m:∀s∈S,s.good b w):QRow 2 SayD.lie w ⟨some ⟨g,0,none⟩,n,cap⟩ S:=by
 have l:S.length=n:=by have:=h.1;rw[flat_len]at this;omega
 refine⟨l,fun i s hs=>⟨g,0,rfl,?_⟩⟩
 have hi:i<n:=by have:=(zok.1 hs).1;omega
 obtain⟨o,k⟩:=zkt hs;obtain⟨f,j,c⟩:=m s (zol hs);rw[zoK];exact⟨⟨(h.cellAt (i*2) (by omega)).trans o,f⟩,⟨(h.cellAt (i*2+1) (by omega)).trans k,fun e=>by obtain⟨_,_,a,_,d⟩:=jR c;simp only[zox,true_and]at a;obtain⟨rfl,rfl⟩:=a;exact d e⟩,kJ c j⟩
def ze0(al:List ActD)(l:List Int):List (Int × List Int):=l.map fun i=>(i,(al.getD i.toNat ActD.z).ws)
structure RulAt (w W2 wr : World) (kind : Int) (wl : List Int) (al : List ActD) (l : List Int) (p7 : Nat) (wa : Option Addr) (wc : Nat) (v : Value) (S : List SayD) : Prop where
 c0 : wr.cell? ⟨p7, 0, none⟩ = some (.int .i64 kind)
 c1 : wr.cell? ⟨p7, 1, none⟩ = some (.slice wa wl.length wc)
 c2 : wr.cell? ⟨p7, 2, none⟩ = some v
 fz : wr.frozen? ⟨p7, 2, none⟩ = false
 pw : w.heap.size + 2 <= p7
 bs : p7 + 1 <= wr.heap.size
 ws : wr.ownsRow (w.heap.size + 2) 3 1 (.slice wa wl.length wc) wl.length (II wl)
 wne : (Value.slice wa wl.length wc).ownBlock ≠ some p7
 wf : ∀ x ∈ wl, (Lit.int .i64 x).wf = true
 own : wr.ownsRow (p7 + 1) 202 2 v S.length (S.flatMap SayD.cells)
 good : ∀ s ∈ S, s.good (p7 + 1) wr
 says : S.map (fun s => (s.act, s.ps)) = ze0 al l
 bel : Below (w.heap.size + 2) W2 wr
theorem RulAt.form{w d wr:World}{kind:Int}{i:List Int}{al:List ActD}{l:List Int}{j:Nat}{f:Option Addr}{wc:Nat}{v:Value}{S:List SayD}(h:RulAt w d wr kind i al l j f wc v S):∃a c,v=.slice a S.length c/\(a=none->S.length=0/\c=0):=by
 rcases h.own.2 with⟨e,b⟩|⟨g,c,k,e,_⟩
 ·exact⟨none,0,by rw[e,b],fun _=>⟨b,rfl⟩⟩
 ·exact⟨_,c,e,by simp⟩
theorem zbP{w:World}{s k r o l h:Nat}{g d:TypeId}{v1 v2:Value}{m j:List Value}(q:w.ownsRow s g l v1 r m)(n:w.ownsRow k d h v2 o j)(i:g≠d):v1.ownBlock=none\/v1.ownBlock≠v2.ownBlock:=by
 rcases q.2 with⟨rfl,_⟩|⟨t,c1,f,rfl,_,b,_⟩
 ·exact .inl rfl
 ·refine .inr fun e=>?_
  rcases n.2 with⟨rfl,_⟩|⟨u,c2,c,rfl,_,a,_⟩
  ·simp[Value.ownBlock]at e
  ·simp only[Value.ownBlock,zoo]at e;subst e;rw[b]at a;simp only[zoo,Obj.cells.injEq]at a;exact i a.2.1
theorem RulAt.push{w J wr k u:World}{kind i:Int}{I ps:List Int}{al:List ActD}{l:List Int}{d m c5:Nat}{K t:Option Addr}{wc:Nat}{v v6:Value}{S:List SayD}(h:RulAt w J wr kind I al l d K wc v S)
 (hi:(Lit.int .i64 i).wf=true) (B:(al.getD i.toNat ActD.z).ws=ps) (E:∀n∈ps,(Lit.int .i64 n).wf=true) (F:Below wr.drew.heap.size wr.drew k) (C:k.ownsRow wr.drew.heap.size 3 1 (.slice t m c5) m (II ps))
 (D:u.ownsRow (d+1) 202 2 v6 (S.length+1) (S.flatMap SayD.cells++[.int .i64 i,.slice t m c5])) (f:(k.alloc (.cells #[.int .i64 i,.slice t m c5] 202)).grownBy u v.ownBlock):
 RulAt w J (u.setCell ⟨d,2,none⟩ v6) kind I al (l++[i]) d K wc v6 (S++[⟨i,⟨t,m,c5⟩,ps⟩]):=by
 have T:Below wr.heap.size wr k:=(zof wr.heap.size wr).drew.trans F;have G:Below k.heap.size k (k.alloc (.cells #[.int .i64 i,.slice t m c5] 202)):=ze (zof _ _);have g:=zh T G;have r:some d≠v.ownBlock:=fun e=>by have:=(h.own.lt d e.symm).1;omega
 have M:3≠202:=by decide
 have q:=zU h.own g;have cell:∀{o:Nat} {x:Value},wr.cell? ⟨d,o,none⟩=some x->u.cell? ⟨d,o,none⟩=some x:=fun A=>f.cell (za A g) r
 have keep:∀{b n c:Nat} {a:Option Addr} {H:List Value},wr.ownsRow b 3 1 (.slice a n c) n H->u.ownsRow b 3 1 (.slice a n c) n H:=fun A=>(zU A g).kept f (zbP (zU A g) q M)
 have O:wr.heap.size<=u.heap.size:=zoz g.size f.size;have y:u.ownsRow (d+1) 3 1 (.slice t m c5) m (II ps):=by
  have L:k.ownsRow (d+1) 3 1 (.slice t m c5) m (II ps):=C.mono (by simpa using h.bs)
  exact(L.alloc _).kept f (zbP (L.alloc _) q M)
 refine⟨(zou _ _ _ _ (by simp)).trans (cell h.c0),(zou _ _ _ _ (by simp)).trans (cell h.c1),zot _ _ _ (cell h.c2),?_,h.pw,?_,?_,h.wne,h.wf,?_,?_,?_,?_⟩
 ·rw[World.frozen?_setCell,f.frozen_far ⟨d,2,none⟩ (by have:=h.bs;have:=g.size;show d<_;omega) r,g.frozen (p:=⟨d,2,none⟩) (by have:=h.bs;show d<_;omega)]
  exact h.fz
 ·rw[zow];have:=h.bs;omega
 ·exact ownsRow_setCell_other (keep h.ws) h.wne v6
 ·rw[List.length_append,List.flatMap_append];exact ownsRow_setCell_below D (a:=⟨d,2,none⟩) (zoF _) v6
 ·intro s hs;rcases List.mem_append.1 hs with hs|hs
  ·obtain⟨U,V,P⟩:=h.good s hs;exact⟨U,V,ownsRow_setCell_below (keep P) (a:=⟨d,2,none⟩) (zoF _) v6⟩
  ·simp only[zoD,zoA,or_false]at hs;subst hs;exact⟨hi,E,ownsRow_setCell_below y (a:=⟨d,2,none⟩) (zoF _) v6⟩
 ·rw[List.map_append,h.says];simp only[ze0,List.map_append,List.map_cons,List.map_nil,B]
 ·have Q:=h.pw;have R:=h.bs;refine zoV ?_ (by show w.heap.size+2<=d;omega) v6
  refine(h.bel.trans (g.mono (by omega))).grown f (by have:=g.size;omega) ?_
  intro j N;have:=(h.own.lt j N).1;omega
theorem zdC{w a wr:World}{o:Obj}(b:a=((w.alloc o).alloc (.cells #[.int .i64 0,.slice none 0 0,.slice none 0 0] 190)))(hb:Below (w.heap.size+2) a wr):
 (wr.cell? ⟨w.heap.size+1,0,none⟩=some (.int .i64 0)/\wr.cell? ⟨w.heap.size+1,1,none⟩=some (.slice none 0 0)/\wr.cell? ⟨w.heap.size+1,2,none⟩=some (.slice none 0 0))/\(wr.frozen? ⟨w.heap.size+1,0,none⟩=false/\wr.frozen? ⟨w.heap.size+1,1,none⟩=false/\wr.frozen? ⟨w.heap.size+1,2,none⟩=false):=by
 subst b;have c:∀i,wr.cell? ⟨w.heap.size+1,i,none⟩=(#[.int .i64 0,.slice none 0 0,.slice none 0 0]:Array Value)[i]?:=fun i=>(hb.cell (p:=⟨w.heap.size+1,i,none⟩) (by simp)).trans (zod _ _ _ _ (by simp))
 have f:∀i,wr.frozen? ⟨w.heap.size+1,i,none⟩=false:=fun i=>(hb.frozen (p:=⟨w.heap.size+1,i,none⟩) (by simp)).trans (zoB _ _ _ _ (by simp))
 exact⟨⟨c 0,c 1,c 2⟩,f 0,f 1,f 2⟩
theorem ze1{w:World}{base e k n:Nat}{v:Value}{b:List Value}(h:w.ownsRow base e k v n b):∃a c,v=.slice a n c:=by
 rcases h.2 with⟨e,d⟩|⟨g,c,f,e,_⟩
 ·exact⟨none,0,by rw[e,d]⟩
 ·exact⟨_,c,e⟩
theorem zg6(w:World)(x:Int)(y:Value):∀(j:Nat) (u:Value),([.int .i64 x,y]:List Value)[j]?=some u->(w.alloc (.cells #[.int .i64 x,y] 202)).cell? ((⟨w.heap.size,0,none⟩:Addr).add j)=some u:=by
 intro j u a;rw[Addr.add_lit,zoK,zod _ _ _ _ rfl];simpa using a
theorem ze2{w wr c:World}{a n:Nat}{v u:Value}{i:List Value}{o:Obj}(g:wr.ownsRow (a+1) 202 2 v n i)(d:(w.alloc o).grownBy c v.ownBlock)(j:a<w.heap.size)(f:w.cell? ⟨a,2,none⟩=some u)(h:w.frozen? ⟨a,2,none⟩=false):c.cell? ⟨a,2,none⟩=some u/\c.frozen? ⟨a,2,none⟩=false:=by
 have b:some a≠v.ownBlock:=fun e=>by have:=(g.lt a e.symm).1;omega
 exact⟨d.cell (za f (ze (zof _ _))) b,by rw[d.frozen_far ⟨a,2,none⟩ (by simp;omega) b,(ze (o:=o) (zof w.heap.size w)).frozen (p:=⟨a,2,none⟩) j];exact h⟩
theorem zil{w a c:World}{kind:Int}{d:List Int}{al:List ActD}{f:Option Addr}{n b:Nat}(hs:a.heap.size=w.heap.size+2)(j:d.length=n)(hb:Below a.drew.heap.size a.drew c)(h:c.ownsRow a.drew.heap.size 3 1 (.slice f n b) n (II d))(g:∀x∈d,(Lit.int .i64 x).wf=true):
 RulAt w a (c.alloc (.cells #[.int .i64 kind,.slice f n b,.slice none 0 0] 190)) kind d al [] c.heap.size f b (.slice none 0 0) []:=by
 subst j;have i:w.heap.size+2<=c.heap.size:=by have:=hb.size;simpa[hs]using this
 exact⟨(zod _ _ _ _ rfl).trans rfl,(zod _ _ _ _ rfl).trans rfl,(zod _ _ _ _ rfl).trans rfl,zoB _ _ _ _ rfl,i,by simp,((h.mono (by simp[hs])).alloc _),fun e=>absurd (h.lt _ e).2 (Nat.lt_irrefl _),g,zoH _ _ _ _,by simp,rfl,
  ((((zof a.heap.size a).drew).trans hb).mono (by omega)).alloc i _⟩
abbrev RZ:Obj:=.cells #[.int .i64 0,.slice none 0 0,.slice none 0 0] 190
theorem ze3{b a:World}{n:Nat}(e:b.heap.size=n)(d:Below (b.drew.alloc RZ).heap.size (b.drew.alloc RZ) a):
 (a.cell? ⟨n,0,none⟩=some (.int .i64 0)/\a.cell? ⟨n,1,none⟩=some (.slice none 0 0)/\a.cell? ⟨n,2,none⟩=some (.slice none 0 0))/\(a.frozen? ⟨n,0,none⟩=false/\a.frozen? ⟨n,1,none⟩=false/\a.frozen? ⟨n,2,none⟩=false)/\n<a.heap.size:=by
 subst e;have hs:b.heap.size<(b.drew.alloc RZ).heap.size:=by simp
 have c:∀i,a.cell? ⟨b.heap.size,i,none⟩=(#[.int .i64 0,.slice none 0 0,.slice none 0 0]:Array Value)[i]?:=fun i=>(d.cell (p:=⟨b.heap.size,i,none⟩) hs).trans (zod _ _ _ _ rfl)
 have f:∀i,a.frozen? ⟨b.heap.size,i,none⟩=false:=fun i=>(d.frozen (p:=⟨b.heap.size,i,none⟩) hs).trans (zoB _ _ _ _ rfl)
 exact⟨⟨c 0,c 1,c 2⟩,⟨f 0,f 1,f 2⟩,zom hs d.size⟩
theorem zim{w c f:World}{kind:Int}{d:List Int}{al:List ActD}{h:Option Addr}{n b:Nat}(hs:c.heap.size=w.heap.size+2)(r:d.length=n)(hb:Below (c.drew.alloc (.cells #[.int .i64 0,.slice none 0 0,.slice none 0 0] 190)).heap.size (c.drew.alloc (.cells #[.int .i64 0,.slice none 0 0,.slice none 0 0] 190)) f)(i:f.ownsRow (c.drew.alloc (.cells #[.int .i64 0,.slice none 0 0,.slice none 0 0] 190)).heap.size 3 1 (.slice h n b) n (II d))(j:∀x∈d,(Lit.int .i64 x).wf=true):
 RulAt w c (((f.setCell ⟨w.heap.size+2,0,none⟩ (.int .i64 kind)).setCell ⟨w.heap.size+2,1,none⟩ (.slice h n b)).setCell ⟨w.heap.size+2,2,none⟩ (.slice none 0 0)) kind d al [] (w.heap.size+2) h b (.slice none 0 0) []:=by
 subst r;obtain⟨⟨q,o,k⟩,⟨f0,f1,f2⟩,l⟩:=ze3 hs hb;have g:(c.drew.alloc (.cells #[.int .i64 0,.slice none 0 0,.slice none 0 0] 190)).heap.size=w.heap.size+3:=by simp[hs]
 rw[g]at i;have s0:((f.setCell ⟨w.heap.size+2,0,none⟩ (.int .i64 kind)).setCell ⟨w.heap.size+2,1,none⟩ (.slice h d.length b)).cell? ⟨w.heap.size+2,2,none⟩=some (.slice none 0 0):=(zou _ _ _ _ (by simp)).trans ((zou _ _ _ _ (by simp)).trans k)
 have s1:(f.setCell ⟨w.heap.size+2,0,none⟩ (.int .i64 kind)).cell? ⟨w.heap.size+2,1,none⟩=some (.slice none 0 0):=(zou _ _ _ _ (by simp)).trans o
 have o1:=ownsRow_setCell_below i (a:=⟨w.heap.size+2,0,none⟩) (by show w.heap.size+2<w.heap.size+3;omega) (.int .i64 kind)
 have o2:=ownsRow_setCell_below o1 (a:=⟨w.heap.size+2,1,none⟩) (by show w.heap.size+2<w.heap.size+3;omega) (.slice h d.length b)
 have o3:=ownsRow_setCell_below o2 (a:=⟨w.heap.size+2,2,none⟩) (by show w.heap.size+2<w.heap.size+3;omega) (.slice none 0 0)
 have m:Below (w.heap.size+2) c f:=(((zof c.heap.size c).drew.mono (by omega)).alloc (by simp[hs]) _).trans (hb.mono (by rw[g];omega))
 exact⟨(zou _ _ _ _ (by simp)).trans ((zou _ _ _ _ (by simp)).trans (zot _ _ _ q)),(zou _ _ _ _ (by simp)).trans (zot _ _ _ s1),zot _ _ _ s0,by simpa using f2,zos _,by simp;omega,o3.mono (by omega),fun e=>absurd (i.lt _ e).1 (by omega),j,zoH _ _ _ _,by simp,rfl,
  ((m.setCell (by simp) _).setCell (by simp) _).setCell (by simp) _⟩
@[reducible] def TabD.box'(t:TabD):Obj:=.cells #[.int .i64 t.kind,.slice t.keys.a t.keys.n t.keys.c,.slice t.acts.a t.acts.n t.acts.c,.int .i64 t.cap,.int .i64 t.dflt,.slice t.args.a t.args.n t.args.c] 63
@[reducible] def TabD.v'(t:TabD):Value:=.agg #[.int .i64 t.kind,.slice t.keys.a t.keys.n t.keys.c,.slice t.acts.a t.acts.n t.acts.c,.int .i64 t.cap,.int .i64 t.dflt,.slice t.args.a t.args.n t.args.c]
def kD(kind:Int)(b:List Int)(al:List ActD)(l:List Int)(w:World)(e:Ending)(w':World):Prop:=
 ∃d wc m S,e=.returned (.agg #[.int .i64 kind,.slice d b.length wc,.slice (QSl.a m) (QSl.n m) (QSl.c m)])/\Has .i64 w' d b.length b/\QRow 2 SayD.lie w' m S/\S.map (fun s=>(s.act,s.ps))=ze0 al l/\Below w.heap.size w w'/\w'.ownsRow w.heap.size 3 1 (.slice d b.length wc) b.length (II b)/\w'.ownsRow w.heap.size 202 2 (.slice (QSl.a m) (QSl.n m) (QSl.c m)) S.length (S.flatMap SayD.cells)/\∀s∈S,s.good w.heap.size w'
theorem zg7{w r wr:World}{kind:Int}{q:List Int}{al:List ActD}{l:List Int}{y:Nat}{o m:Option Addr}{wc sc:Nat}{S:List SayD}(h:RulAt w r wr kind q al l y o wc (.slice m S.length sc) S)(x:Below w.heap.size w r)(i j f:Value):
 kD kind q al l w (.returned (.agg #[.int .i64 kind,.slice o q.length wc,.slice m S.length sc])) (((wr.setCell ⟨w.heap.size+1,0,none⟩ i).setCell ⟨w.heap.size+1,1,none⟩ j).setCell ⟨w.heap.size+1,2,none⟩ f):=by
 have d:∀{b n k:Nat} {t:TypeId} {v:Value} {u:List Value},w.heap.size+1<b->wr.ownsRow b t k v n u->(((wr.setCell ⟨w.heap.size+1,0,none⟩ i).setCell ⟨w.heap.size+1,1,none⟩ j).setCell ⟨w.heap.size+1,2,none⟩ f).ownsRow b t k v n u:=fun hb B=>
  ownsRow_setCell_below (ownsRow_setCell_below (ownsRow_setCell_below B (a:=⟨w.heap.size+1,0,none⟩) hb i) (a:=⟨w.heap.size+1,1,none⟩) hb j) (a:=⟨w.heap.size+1,2,none⟩) hb f
 have D:=h.pw;have o1:=d (by omega) h.ws
 have o2:=d (by omega) h.own
 have bl:Below w.heap.size w (((wr.setCell ⟨w.heap.size+1,0,none⟩ i).setCell ⟨w.heap.size+1,1,none⟩ j).setCell ⟨w.heap.size+1,2,none⟩ f):=(((x.trans (h.bel.mono (by omega))).setCell (by simp) _).setCell (by simp) _).setCell (by simp) _
 refine⟨o,wc,⟨m,S.length,sc⟩,S,rfl,kJ o1 h.wf,?_,h.says,bl,o1.mono (by omega),o2.mono (by omega),fun s hs=>⟨(h.good s hs).1,(h.good s hs).2.1,(d (by omega) (h.good s hs).2.2).mono (by omega)⟩⟩
 rcases o2.2 with⟨e,A⟩|⟨g,c,C,e,_⟩
 ·have:S=[]:=zoG A;subst this;exact⟨rfl,by simp⟩
 ·simp only[zox]at e;obtain⟨rfl,_,rfl⟩:=e;exact zlR o2 (fun s hs=>⟨(h.good s hs).1,(h.good s hs).2.1,d (by omega) (h.good s hs).2.2⟩)
theorem ze4(t:TabD)(wq:QSl)(o:List Int)(O:QSl)(al:List ActD)(w:World)(hw:Has .i64 w wq.a wq.n o)(c7:wq.nil0)(d8:wq.n<=100000)(ht:Has .i64 w t.acts.a t.acts.n t.al)(e1:t.acts.n<=10000)(ha:QRow 2 ActD.lie w O al)(b5:∀i∈t.al,0<=i/\i<(O.n:Int))(X:∀x∈al,x.w.n<=100000):
 Calls Tryz.prog 139 #[t.v',.slice wq.a wq.n wq.c,.slice O.a O.n O.c] w (kD t.kind o al t.al w):=by
 obtain⟨A,hW⟩:∃A,A=((w.alloc t.box').alloc RZ):=⟨_,rfl⟩;obtain⟨Q,h0⟩:∃Q,Q=w.heap.size:=⟨_,rfl⟩;obtain⟨P,h1⟩:∃P,P=w.heap.size+1:=⟨_,rfl⟩;have z0:A.cell? ⟨Q,0,none⟩=some (.int .i64 t.kind):=by rw[hW,h0];exact(zoe _ _ _ (by simp)).trans ((zod _ _ _ _ rfl).trans rfl)
 have z2:A.cell? ⟨Q,2,none⟩=some (.slice t.acts.a t.acts.n t.acts.c):=by rw[hW,h0];exact(zoe _ _ _ (by simp)).trans ((zod _ _ _ _ rfl).trans rfl)
 have HB:Hid (Below w.heap.size w A):=by rw[hW];exact ze (ze (zof _ _))
 have Y:A.heap.size=w.heap.size+2:=by rw[hW];simp
 have b3:=hid ((hw.step HB.out).step (zof A.heap.size A).drew);have E2:=hid hW;have E0:=hid h0;have E1:=hid h1;have W:=hid ht;have HA:=hid ha;have c4:=hid b5;have c3:=hid X;have d2:=hid c7;have b8:=hid hw.1;have b9:=hid hw.2.1;obtain⟨qa,eqa⟩:∃qa,O.a=qa:=⟨_,rfl⟩;rw[eqa];have b4:=hid eqa;clear hW h0 h1 hw ht ha b5 X c7 eqa;go_enter Tryz.func139,Tryz.ntmps139
 go_wp2_with fail
 rw[<-E2.out,<-E1.out,<-E0.out];have d6:¬(w.heap.size+2=Q):=by rw[E0.out];omega
 have d3:¬(Q=w.heap.size+2):=by rw[E0.out];omega
 go_region_held3 (fun w'=>w'.cell? ⟨Q,0,none⟩=some (.int .i64 t.kind))
  (first
   |go_keep
   |exact za (by assumption) H
   |exact za (za (w:=A.drew) z0 H) (ze (zof _ _)))
  (first
   |(refine zky rfl _ _ rfl wq.n wq.c o wq.a (by simp[Act.eval]) (by simp[Act.eval]) d2.out (by first|exact b3.out|exact b3.out.alloc) (by omega) ?_;intro v1 w1 h H;obtain⟨C,b,rfl,V,b6⟩:=jR h;(first|(have RC:=ze3 Y H;have d9:=RC.1.1;have d4:=RC.1.2.1;have d7:=RC.1.2.2;have e0:=RC.2.1.1;have e3:=RC.2.1.2.1;have e2:=RC.2.1.2.2;have d5:=RC.2.2)|skip)))
 ·obtain⟨R,hWR⟩:∃R,R=w1.alloc (.cells #[.int .i64 t.kind,.slice C wq.n b,.slice none 0 0] 190):=⟨_,rfl⟩;obtain⟨m,f⟩:∃m,m=w1.heap.size:=⟨_,rfl⟩;have F:Hid (RulAt w A R t.kind o al [] m C b (.slice none 0 0) []):=by
   show RulAt w A R t.kind o al [] m C b (.slice none 0 0) [];rw[hWR,f];exact zil Y b8.out H h b9.out
  rw[<-hWR,<-f];have K:=hid F.out.bel;have zb:=(K.out.cell (p:=⟨Q,2,none⟩) (by rw[E0.out];simp)).trans z2
  clear hWR f H h b6 V;obtain⟨ta,eta⟩:∃ta,t.acts.a=ta:=⟨_,rfl⟩;rw[eta]at zb;have b2:=hid eta;clear eta;go_wp2;go_loopw [18,9] (fun q _ wr=>∃k:Nat,∃v S,k<=t.acts.n/\q=.int .i64 k/\Hid (RulAt w A wr t.kind o al (t.al.take k) m C b v S)) (fun q _ _=>t.acts.n-(intOf q).toNat)
  case atStart=>exact⟨0,_,_,zon _,rfl,F⟩
  case round=>
   obtain⟨k,v,S,hk,rfl,d⟩:=hrel;clear F K zb;have T:Hid (Below w.heap.size w wr):=HB.out.trans (d.out.bel.mono (by omega))
   have L:S.length=k:=by
    have h1:=congrArg List.length d.out.says;simp only[zoE,ze0,List.length_take,W.out.1]at h1;omega
   have a4:=hid L;clear L;obtain⟨U,sc,rfl,_⟩:=d.out.form;by_cases a2:k<t.acts.n
   ·obtain⟨g,off,i,N,hi,r0⟩:=xQ (W.out.step T.out) a2;obtain rfl:ta=some ⟨g,off,none⟩:=by rw[<-b2.out];exact N
    have c8:(k:Int)<(t.acts.n:Int):=by omega
    have l:=zol hi;obtain⟨a7,a8⟩:=c4.out i l;obtain⟨j,rfl⟩:∃j:Nat,i=j:=⟨i.toNat,by omega⟩
    obtain⟨ag,I,x,s,hx,⟨c0,B⟩,_,y,_⟩:=zu (HA.out.step ActD.keeps T.out) (show j<O.n by omega)
    obtain rfl:qa=some ⟨ag,I,none⟩:=by rw[<-b4.out];exact s
    have d0:(j:Int)<(O.n:Int):=by omega
    have d1:x.w.n<=100000:=c3.out x (zol hx);have HX:=hid (y.step (zof wr.heap.size wr).drew);have r:=hid B;have y2:=d.out.c2;have yf:=d.out.fz;have f:m<wr.heap.size:=by have:=d.out.bs;omega
    have a0:=hid (W.out.2.1 _ l);have a3:Hid ((al.getD ((j:Int)).toNat ActD.z).ws=x.ws):=by
     show(al.getD ((j:Int)).toNat ActD.z).ws=x.ws;rw[zov,zoi,hx];rfl
    have Z:Hid (t.al.take k++[(j:Int)]=t.al.take (k+1)):=by
     show t.al.take k++[(j:Int)]=t.al.take (k+1);rw[zoI,hi];rfl
    clear N s hi hx l B y a7 a8;go_wp2_with fail
    go_region_law (first
     |(refine zky rfl _ _ rfl x.w.n x.w.c x.ws x.w.a (by simp[Act.eval]) (by simp[Act.eval]) r.out HX.out (by omega) ?_;intro v5 w5 G e;obtain⟨a5,c5,rfl,b7,c9⟩:=jR G;have y5:=za (w:=wr.drew) y2 e;have J:=(e.frozen (p:=⟨m,2,none⟩) f).trans yf;have M:m<w5.heap.size:=zom f e.size)
     |(refine zmy Tryz.underlying188 Tryz.infoSaying rfl (by decide) (by decide) rfl _ _ rfl (m+1) S.length 1 (.slice U S.length sc) (S.flatMap SayD.cells) [.int .i64 (j:Int),.slice a5 x.w.n c5] ⟨w5.heap.size,0,none⟩ (by simp[Act.eval]) (by simp[Act.eval]) ((zU (zU d.out.own ((zof wr.heap.size wr).drew)) e).alloc _) rfl (zg6 w5 _ _) (by intro u hu;simp only[zoD,zoA,or_false]at hu;rcases hu with rfl|rfl<;>rfl) (by have:=a4.out;omega) (by simp;omega) ?_;intro v6 w6 D E;obtain⟨a6,c6,rfl⟩:=ze1 D;obtain⟨y6,a9⟩:=ze2 d.out.own E M y5 J))
    all_goals
     have RN:Hid (RulAt w A (w6.setCell ⟨m,2,none⟩ (.slice a6 (S.length+1) c6)) t.kind o al (t.al.take (k+1)) m C b (.slice a6 (S.length+1) c6) (S++[⟨(j:Int),⟨a5,x.w.n,c5⟩,x.ws⟩])):=by
      rw[<-Z.out];exact d.out.push a0.out a3.out HX.out.2.1 e G D E
     clear G D E e y2 yf y5 J y6 a9 d HX r r0 c0 T;go_wp2;go_roundw
     case rel=>exact⟨k+1,_,_,by omega,by go_num,RN⟩
     case measure=>simp[intOf];omega
   ·have ek:k=t.acts.n:=by omega
    have c0:=d.out.c0;have c1:=d.out.c1;have c2:=d.out.c2;have hr:=zdC E2.out d.out.bel;rw[<-E1.out]at hr;obtain⟨⟨q0,q1,q2⟩,f0,f1,f2⟩:=hr;have HF:Hid (kD t.kind o al t.al w (.returned (.agg #[.int .i64 t.kind,.slice C o.length b,.slice U S.length sc])) (((wr.setCell ⟨P,0,none⟩ (.int .i64 t.kind)).setCell ⟨P,1,none⟩ (.slice C o.length b)).setCell ⟨P,2,none⟩ (.slice U S.length sc))):=by
     show kD t.kind o al t.al w _ _;have hl:t.al.take k=t.al:=List.take_of_length_le (by rw[W.out.1];omega)
     have RB:=d.out;rw[hl]at RB;rw[E1.out];exact zg7 RB HB.out _ _ _
    have sb:P<wr.heap.size:=zog wr _ q0;clear d T;subst ek;go_wp2;exact bodyPost_ret (v:=.agg #[.int .i64 t.kind,.slice C o.length b,.slice U S.length sc]) (by simp[results,Tryz.results139,go_sem, *]) rfl HF.out
 ·obtain⟨R,hWR⟩:∃R,R=((w1.setCell ⟨w.heap.size+2,0,none⟩ (.int .i64 t.kind)).setCell ⟨w.heap.size+2,1,none⟩ (.slice C wq.n b)).setCell ⟨w.heap.size+2,2,none⟩ (.slice none 0 0):=⟨_,rfl⟩;obtain⟨m,f⟩:∃m,m=w.heap.size+2:=⟨_,rfl⟩;have F:Hid (RulAt w A R t.kind o al [] m C b (.slice none 0 0) []):=by
   show RulAt w A R t.kind o al [] m C b (.slice none 0 0) [];rw[hWR,f];exact zim Y b8.out H h b9.out
  rw[<-hWR,<-f];have K:=hid F.out.bel;have zb:=(K.out.cell (p:=⟨Q,2,none⟩) (by rw[E0.out];simp)).trans z2
  clear hWR f H h b6 V;obtain⟨ta,eta⟩:∃ta,t.acts.a=ta:=⟨_,rfl⟩;rw[eta]at zb;have b2:=hid eta;clear eta;go_wp2;go_loopw [18,9] (fun q _ wr=>∃k:Nat,∃v S,k<=t.acts.n/\q=.int .i64 k/\Hid (RulAt w A wr t.kind o al (t.al.take k) m C b v S)) (fun q _ _=>t.acts.n-(intOf q).toNat)
  case atStart=>exact⟨0,_,_,zon _,rfl,F⟩
  case round=>
   obtain⟨k,v,S,hk,rfl,d⟩:=hrel;clear F K zb;have T:Hid (Below w.heap.size w wr):=HB.out.trans (d.out.bel.mono (by omega))
   have L:S.length=k:=by
    have h1:=congrArg List.length d.out.says;simp only[zoE,ze0,List.length_take,W.out.1]at h1;omega
   have a4:=hid L;clear L;obtain⟨U,sc,rfl,_⟩:=d.out.form;by_cases a2:k<t.acts.n
   ·obtain⟨g,off,i,N,hi,r0⟩:=xQ (W.out.step T.out) a2;obtain rfl:ta=some ⟨g,off,none⟩:=by rw[<-b2.out];exact N
    have c8:(k:Int)<(t.acts.n:Int):=by omega
    have l:=zol hi;obtain⟨a7,a8⟩:=c4.out i l;obtain⟨j,rfl⟩:∃j:Nat,i=j:=⟨i.toNat,by omega⟩
    obtain⟨ag,I,x,s,hx,⟨c0,B⟩,_,y,_⟩:=zu (HA.out.step ActD.keeps T.out) (show j<O.n by omega)
    obtain rfl:qa=some ⟨ag,I,none⟩:=by rw[<-b4.out];exact s
    have d0:(j:Int)<(O.n:Int):=by omega
    have d1:x.w.n<=100000:=c3.out x (zol hx);have HX:=hid (y.step (zof wr.heap.size wr).drew);have r:=hid B;have y2:=d.out.c2;have yf:=d.out.fz;have f:m<wr.heap.size:=by have:=d.out.bs;omega
    have a0:=hid (W.out.2.1 _ l);have a3:Hid ((al.getD ((j:Int)).toNat ActD.z).ws=x.ws):=by
     show(al.getD ((j:Int)).toNat ActD.z).ws=x.ws;rw[zov,zoi,hx];rfl
    have Z:Hid (t.al.take k++[(j:Int)]=t.al.take (k+1)):=by
     show t.al.take k++[(j:Int)]=t.al.take (k+1);rw[zoI,hi];rfl
    clear N s hi hx l B y a7 a8;go_wp2_with fail
    go_region_law (first
     |(refine zky rfl _ _ rfl x.w.n x.w.c x.ws x.w.a (by simp[Act.eval]) (by simp[Act.eval]) r.out HX.out (by omega) ?_;intro v5 w5 G e;obtain⟨a5,c5,rfl,b7,c9⟩:=jR G;have y5:=za (w:=wr.drew) y2 e;have J:=(e.frozen (p:=⟨m,2,none⟩) f).trans yf;have M:m<w5.heap.size:=zom f e.size)
     |(refine zmy Tryz.underlying188 Tryz.infoSaying rfl (by decide) (by decide) rfl _ _ rfl (m+1) S.length 1 (.slice U S.length sc) (S.flatMap SayD.cells) [.int .i64 (j:Int),.slice a5 x.w.n c5] ⟨w5.heap.size,0,none⟩ (by simp[Act.eval]) (by simp[Act.eval]) ((zU (zU d.out.own ((zof wr.heap.size wr).drew)) e).alloc _) rfl (zg6 w5 _ _) (by intro u hu;simp only[zoD,zoA,or_false]at hu;rcases hu with rfl|rfl<;>rfl) (by have:=a4.out;omega) (by simp;omega) ?_;intro v6 w6 D E;obtain⟨a6,c6,rfl⟩:=ze1 D;obtain⟨y6,a9⟩:=ze2 d.out.own E M y5 J))
    all_goals
     have RN:Hid (RulAt w A (w6.setCell ⟨m,2,none⟩ (.slice a6 (S.length+1) c6)) t.kind o al (t.al.take (k+1)) m C b (.slice a6 (S.length+1) c6) (S++[⟨(j:Int),⟨a5,x.w.n,c5⟩,x.ws⟩])):=by
      rw[<-Z.out];exact d.out.push a0.out a3.out HX.out.2.1 e G D E
     clear G D E e y2 yf y5 J y6 a9 d HX r r0 c0 T;go_wp2;go_roundw
     case rel=>exact⟨k+1,_,_,by omega,by go_num,RN⟩
     case measure=>simp[intOf];omega
   ·have ek:k=t.acts.n:=by omega
    have c0:=d.out.c0;have c1:=d.out.c1;have c2:=d.out.c2;have hr:=zdC E2.out d.out.bel;rw[<-E1.out]at hr;obtain⟨⟨q0,q1,q2⟩,f0,f1,f2⟩:=hr;have HF:Hid (kD t.kind o al t.al w (.returned (.agg #[.int .i64 t.kind,.slice C o.length b,.slice U S.length sc])) (((wr.setCell ⟨P,0,none⟩ (.int .i64 t.kind)).setCell ⟨P,1,none⟩ (.slice C o.length b)).setCell ⟨P,2,none⟩ (.slice U S.length sc))):=by
     show kD t.kind o al t.al w _ _;have hl:t.al.take k=t.al:=List.take_of_length_le (by rw[W.out.1];omega)
     have RB:=d.out;rw[hl]at RB;rw[E1.out];exact zg7 RB HB.out _ _ _
    have sb:P<wr.heap.size:=zog wr _ q0;clear d T;subst ek;go_wp2;exact bodyPost_ret (v:=.agg #[.int .i64 t.kind,.slice C o.length b,.slice U S.length sc]) (by simp[results,Tryz.results139,go_sem, *]) rfl HF.out
end Go.Proofs.YtbmcgbmegcpgnaaGreat
