import Derived.Test.YtdajaaondlekfaaGreatG3
import Derived.Test.YtdajaaondlekfaaGreatG2
import Derived.Deep.RegionHeld3
import Derived.Test.YtdajaaondlekfaaGreatG5
import Derived.Test.YtdajaaondlekfaaGreatVQWidth2
import Derived.Test.YtdajaaondlekfaaGreatG6
import Derived.Deep.DeepCutAuto
import Derived.Test.YtdajaaondlekfaaGreatG0
set_option maxHeartbeats 4000000
set_option maxRecDepth 20000
set_option linter.unusedSimpArgs false
namespace Go.Proofs.YtdajaaondlekfaaGreat
open Go.RowKit
theorem zj{w:World}{b:Nat}{cs:Array Value}{T:TypeId}{f:Nat × Nat}(h:w.heap[b]?=some (.cells cs T f))(i:Nat):w.cell? ⟨b,i,none⟩=cs[i]?:=by simp[World.cell?,h]
theorem zK(w:World)(cs:Array Value)(T:TypeId):(w.alloc (.cells cs T)).heap[w.heap.size]?=some (.cells cs T (0,0)):=heap_alloc_new w _
def yK(t:ShapeD):List Value:=[.int .i64 t.keys,.int .i64 t.acts,.int .i64 t.args]
def yL(x:InsD):List Value:=[.int .i64 x.op,.int .i64 x.r,.int .i64 x.s,.int .i64 x.k,.int .i64 x.to,.int .u64 x.n]
structure GEncAt (d : ProgD) (w W2 : World) (s f : Nat) : Prop where
 p : PBox d W2 s
 ff : W2.heap[f]? = some (.cells #[.int .i64 0, .int .i64 0] 34 (0, 0))
 wf : w.heap.size <= f
 sl : s < f
theorem Tryz.ginfoShape:(Tryz.prog.info? 41).map (fun i=>(i.zero,i.size,i.bytes))=some (some (.agg #[.int .i64 0,.int .i64 0,.int .i64 0]),3,24):=by kernel_rfl
theorem Tryz.ginfoIns:(Tryz.prog.info? 126).map (fun i=>(i.zero,i.size,i.bytes))=some (some (.agg #[.int .i64 0,.int .i64 0,.int .i64 0,.int .i64 0,.int .i64 0,.int .u64 0]),6,48):=by kernel_rfl
theorem zez{w w':World}{g o:Nat}{v:Value}(h:w'.heap[g]?=w.heap[g]?)(a:w.cell? ⟨g,o,none⟩=some v):w'.cell? ⟨g,o,none⟩=some v:=by
 simp only[World.cell?,h]at a ⊢;exact a
theorem CI.blk{w w':World}{g o:Nat}{n:Int}(h:CI w g o n)(e:w'.heap[g]?=w.heap[g]?):CI w' g o n:=⟨zez e h.1,h.2⟩
theorem CU.blk{w w':World}{g o:Nat}{n:Int}(h:CU w g o n)(e:w'.heap[g]?=w.heap[g]?):CU w' g o n:=⟨zez e h.1,h.2⟩
theorem ProgD.lie.blk{d:ProgD}{w w':World}(h:d.lie w)(j:∀ad,d.tabs.a=some ad->w'.heap[ad.block]?=w.heap[ad.block]?)(k:∀ad,d.code.a=some ad->w'.heap[ad.block]?=w.heap[ad.block]?):d.lie w':=by
 refine⟨h.ws,h.n1,h.n2,⟨h.t.1,fun i x f=>?_⟩,⟨h.c.1,fun i x f=>?_⟩⟩
 ·obtain⟨g,off,e,b⟩:=h.t.2 i x f;have q:w'.heap[g]?=w.heap[g]?:=j _ e;exact⟨g,off,e,b.1.blk q,b.2.1.blk q,b.2.2.blk q⟩
 ·obtain⟨g,off,e,b⟩:=h.c.2 i x f;have q:w'.heap[g]?=w.heap[g]?:=k _ e;exact⟨g,off,e,b.1.blk q,b.2.1.blk q,b.2.2.1.blk q,b.2.2.2.1.blk q,b.2.2.2.2.1.blk q,b.2.2.2.2.2.blk q⟩
theorem zjv{α :Type}{cells: α->List Value}{k:Nat}(a:∀x,(cells x).length=k){S:List α}{j:Nat}{u:Value}(h:(S.flatMap cells)[j]?=some u):∃i r s,S[i]?=some s/\(cells s)[r]?=some u/\j=i*k+r:=by
 induction S generalizing j with
 |nil=>simp at h
 |cons x S ih=>
  rw[List.flatMap_cons]at h;by_cases c:j<k
  ·rw[zoL (by rw[a];exact c)]at h
   exact⟨0,j,x,rfl,h,by omega⟩
  ·rw[zoO (by rw[a];omega),a]at h
   obtain⟨i,r,s,b,h2,d⟩:=ih h;exact⟨i+1,r,s,b,h2,by rw[Nat.add_mul];omega⟩
theorem zcv{α :Type}{cells: α->List Value}{k:Nat}(a:∀x,(cells x).length=k){S:List α}{i r:Nat}{s: α}{u:Value}(h:S[i]?=some s)(b:(cells s)[r]?=some u):(S.flatMap cells)[i*k+r]?=some u:=by
 have hr:r<k:=by have:=(zok.1 b).1;rwa[a]at this
 induction S generalizing i with
 |nil=>simp at h
 |cons x S ih=>
  cases i with
  |zero=>
   simp only[List.getElem?_cons_zero,zoo]at h;subst h;rw[List.flatMap_cons,Nat.zero_mul,zoK,zoL (by rw[a];exact hr),b]
  |succ i=>
   simp only[List.getElem?_cons_succ]at h;rw[List.flatMap_cons,zoO (by rw[a,Nat.add_mul];omega),a,show(i+1)*k+r-k=i*k+r by rw[Nat.add_mul];omega]
   exact ih h
theorem zdY{α :Type}{cells: α->List Value}{k:Nat}(a:∀x,(cells x).length=k)(S:List α):(S.flatMap cells).length=S.length*k:=by
 induction S with
 |nil=>simp
 |cons s S ih=>rw[List.flatMap_cons,zor,ih,a,List.length_cons,Nat.add_mul,Nat.one_mul,Nat.add_comm]
theorem ShapeD.lie.cells{x:ShapeD}{w:World}{g o:Nat}(h:x.lie w g o):∀r u,(yK x)[r]?=some u->w.cell? ⟨g,o+r,none⟩=some u:=by
 intro r u a;match r,a with
 |0,a=>cases a;exact h.1.1
 |1,a=>cases a;exact h.2.1.1
 |2,a=>cases a;exact h.2.2.1
 |r+3,a=>simp[yK]at a
theorem InsD.lie.cells{x:InsD}{w:World}{g o:Nat}(h:x.lie w g o):∀r u,(yL x)[r]?=some u->w.cell? ⟨g,o+r,none⟩=some u:=by
 intro r u a;match r,a with
 |0,a=>cases a;exact h.1.1
 |1,a=>cases a;exact h.2.1.1
 |2,a=>cases a;exact h.2.2.1.1
 |3,a=>cases a;exact h.2.2.2.1.1
 |4,a=>cases a;exact h.2.2.2.2.1.1
 |5,a=>cases a;exact h.2.2.2.2.2.1
 |r+6,a=>simp[yL]at a
theorem zcw(x:ShapeD):∀u∈yK x,u.oneCell'=true:=by
 intro u a;simp[yK]at a;rcases a with rfl|rfl|rfl<;>rfl
theorem zeD(x:InsD):∀u∈yL x,u.oneCell'=true:=by
 intro u a;simp[yL]at a;rcases a with rfl|rfl|rfl|rfl|rfl|rfl<;>rfl
theorem zcx{α :Type}{cells: α->List Value}{k:Nat}{P: α->World->Nat->Nat->Prop}(d:∀x,(cells x).length=k)(l:0<k){w:World}{base n c:Nat}{T:TypeId}{a:Option Addr}{S:List α}(h:w.ownsRow base T k (.slice a n c) n (S.flatMap cells))(m:∀x∈S,∀{g o:Nat},(∀r u,(cells x)[r]?=some u->w.cell? ⟨g,o+r,none⟩=some u)->P x w g o):QRow k P w ⟨a,n,c⟩ S/\QSl.nil0 ⟨a,n,c⟩/\(∀ad,a=some ad->base<=ad.block):=by
 have t:S.length=n:=by
  have:=h.1;rw[zdY d]at this;exact Nat.eq_of_mul_eq_mul_right l this
 refine⟨⟨t,fun i s hs=>?_⟩,?_,?_⟩
 ·have q:i<n:=by have:=(zok.1 hs).1;omega
  rcases h.2 with⟨_,e⟩|⟨g,cap,b,e,_⟩
  ·omega
  ·simp only[zox]at e;obtain⟨rfl,_,rfl⟩:=e;refine⟨g,0,rfl,m s (zol hs) (fun j u f=>?_)⟩
   have hr:j<k:=by have:=(zok.1 f).1;rwa[d]at this
   rw[zoK,h.cellAt (i*k+j) ?_,zcv d hs f];have:(i+1)*k<=n*k:=Nat.mul_le_mul_right _ (by omega)
   rw[Nat.add_mul]at this;omega
 ·intro ha;dsimp only at ha ⊢;rcases h.2 with⟨e,_⟩|⟨g,cap,b,e,_⟩
  ·simp only[zox]at e;exact⟨e.2.1,e.2.2⟩
  ·simp only[zox]at e;rw[ha]at e;cases e.1
 ·intro ad ha;rcases h.2 with⟨e,_⟩|⟨g,cap,b,e,hb,_⟩
  ·simp only[zox]at e;rw[ha]at e;cases e.1
  ·simp only[zox]at e;rw[e.1]at ha;cases ha
   exact hb
def OwnB(q:ProgD)(w w':World):Prop:=(∀ad,q.code.a=some ad->(∃b,w'.heap[ad.block]?=some (.cells b 126 (0,0)))/\w.heap.size<=ad.block)/\∀ad,q.tabs.a=some ad->(∃b,w'.heap[ad.block]?=some (.cells b 41 (0,0)))/\w.heap.size<=ad.block
theorem jO{w:World}{base n c k:Nat}{T:TypeId}{a:Option Addr}{f:List Value}(h:w.ownsRow base T k (.slice a n c) n f){ad:Addr}(ha:a=some ad):(∃b,w.heap[ad.block]?=some (.cells b T (0,0)))/\base<=ad.block:=by
 rcases h.2 with⟨e,_⟩|⟨g,cap,b,e,hb,d,_⟩
 ·simp only[zox]at e;rw[ha]at e;cases e.1
 ·simp only[zox]at e;rw[e.1]at ha;cases ha
  exact⟨⟨b,d⟩,hb⟩
def kT(n:Int):List Value:=[.int .i64 n]
theorem ziV(x:Int):∀u∈kT x,u.oneCell'=true:=by
 intro u a;simp[kT]at a;rw[a];rfl
theorem Tryz.ainfoInt:(Tryz.prog.info? 3).map (fun i=>(i.zero,i.size,i.bytes))=some (some (.int .i64 0),1,8):=by kernel_rfl
structure LabD where
 p : Nat
 la : Option Addr
 lc : Nat
 ma : Option Addr
 mc : Nat
 cs : List InsD
 ms : List Int
structure LabAt (T : TypeId) (B : Nat) (d : LabD) (w : World) : Prop where
 box : w.heap[d.p]? = some (.cells #[.slice d.la d.cs.length d.lc, .slice d.ma d.ms.length d.mc] T (0, 0))
 lo : B <= d.p
 code : w.ownsRow B 126 6 (.slice d.la d.cs.length d.lc) d.cs.length (d.cs.flatMap yL)
 marks : w.ownsRow B 3 1 (.slice d.ma d.ms.length d.mc) d.ms.length (d.ms.flatMap kT)
 wf : ∀ x ∈ d.cs, x.wf
 wm : ∀ m ∈ d.ms, -1 <= m /\ m <= d.cs.length
def LabD.own(d:LabD)(b:Nat):Prop:=b=d.p\/(∃ad:Addr,d.la=some ad/\b=ad.block)\/(∃ad:Addr,d.ma=some ad/\b=ad.block)
structure LabTo (d d' : LabD) (w w' : World) : Prop where
 os : w'.os = w.os
 tape : w'.tape = w.tape
 output : w'.output = w.output
 size : w.heap.size <= w'.heap.size
 old : ∀ k, k < w.heap.size -> ¬ d.own k -> w'.heap[k]? = w.heap[k]?
 fresh : ∀ k, d'.own k -> d.own k \/ w.heap.size <= k
theorem zdR{w:World}{base n c k:Nat}{T:TypeId}{a:Option Addr}{d:List Value}(h:w.ownsRow base T k (.slice a n c) n d){ad:Addr}(ha:a=some ad):base<=ad.block/\ad.block<w.heap.size:=by
 obtain⟨⟨b,e⟩,hb⟩:=jO h ha;exact⟨hb,(zoj.1 e).1⟩
theorem LabAt.lows{T:TypeId}{B:Nat}{d:LabD}{w:World}(h:LabAt T B d w){k:Nat}(a:d.own k):B<=k/\k<w.heap.size:=by
 rcases a with rfl|⟨ad,ha,rfl⟩|⟨ad,ha,rfl⟩
 ·exact⟨h.lo,(zoj.1 h.box).1⟩
 ·exact zdR h.code ha
 ·exact zdR h.marks ha
theorem xA{w w':World}{base n c k:Nat}{T:TypeId}{a:Option Addr}{e:List Value}(h:w.ownsRow base T k (.slice a n c) n e)(hb:∀ad:Addr,a=some ad->w'.heap[ad.block]?=w.heap[ad.block]?):w'.ownsRow base T k (.slice a n c) n e:=by
 refine⟨h.1,?_⟩;rcases h.2 with h2|⟨g,cap,d,b,i,f,r⟩
 ·exact .inl h2
 ·refine .inr ⟨g,cap,d,b,i,?_,r⟩;simp only[zox]at b;rw[hb _ b.1];exact f
theorem LabAt.blk{T:TypeId}{B:Nat}{d:LabD}{w w':World}(h:LabAt T B d w)(hb:∀k,d.own k->w'.heap[k]?=w.heap[k]?):LabAt T B d w':=
 ⟨(hb _ (.inl rfl)).trans h.box,h.lo,xA h.code fun ad ha=>hb _ (.inr (.inl ⟨ad,ha,rfl⟩)),xA h.marks fun ad ha=>hb _ (.inr (.inr ⟨ad,ha,rfl⟩)),h.wf,h.wm⟩
theorem LabAt.step{T:TypeId}{B:Nat}{d:LabD}{w w':World}(h:LabAt T B d w)(b:Below w.heap.size w w'):LabAt T B d w':=h.blk fun k a=>b.block k (h.lows a).2
theorem LabTo.below{T:TypeId}{B:Nat}{d a:LabD}{w w':World}(h:LabTo d a w w')(hd:LabAt T B d w)(c:B<=w.heap.size):Below B w w':=
 ⟨h.os,h.tape,h.output,h.size,fun k e=>h.old k (by omega) fun b=>absurd (hd.lows b).1 (by omega)⟩
def toN(ms:List Int)(at_ l:Int):Int × Int:=
 if l<0\/(ms.length:Int)<=l\/ms.getD l.toNat 0= -1 then(0,9)else if ms.getD l.toNat 0<=at_ then(0,11)else(ms.getD l.toNat 0-at_-1,0)
def yW(ms:List Int)(j:Int)(x:InsD):Int:=if ym x.op=true then(toN ms j x.to).2 else 0
def zej(ms:List Int)(j:Int)(x:InsD):InsD:=if ym x.op=true then⟨x.op,x.r,x.s,x.k,(toN ms j x.to).1,x.n⟩else x
def kL(ms:List Int):List InsD->Nat->List InsD
 |[],_=>[]
 |x::r,j=>zej ms j x::kL ms r (j+1)
def zcd(ms:List Int):List InsD->Nat->Int × Int
 |[],_=>(0,0)
 |x::r,j=>if yW ms j x=0 then zcd ms r (j+1)else(yW ms j x,(j:Int))
def kU(ms:List Int)(slots:Int)(ts:List ShapeD)(cs:List InsD):Int × Int:=if(zcd ms cs 0).1≠0 then zcd ms cs 0 else xJ slots ts (kL ms cs 0)
def zgF(ms:List Int)(slots:Int)(ts:List ShapeD)(cs:List InsD):Int:=if(kU ms slots ts cs).1≠0 then 0 else slots
def zgG(ms:List Int)(slots:Int)(ts:List ShapeD)(cs:List InsD):List ShapeD:=if(kU ms slots ts cs).1≠0 then[]else ts
def zgH(ms:List Int)(slots:Int)(ts:List ShapeD)(cs:List InsD):List InsD:=if(kU ms slots ts cs).1≠0 then[]else kL ms cs 0
theorem zmz(ms:List Int):∀(cs:List InsD) (j:Nat),(kL ms cs j).length=cs.length:=by
 intro cs;induction cs with
 |nil=>intro j;rfl
 |cons x r ih=>intro j;simp[kL,ih]
theorem zk8(ms:List Int):∀(cs:List InsD) (j i:Nat),(kL ms cs j)[i]?=cs[i]?.map (zej ms ((j+i:Nat):Int)):=by
 intro cs;induction cs with
 |nil=>intro j i;simp[kL]
 |cons x r ih=>
  intro j i;cases i with
  |zero=>simp[kL]
  |succ i=>rw[kL,List.getElem?_cons_succ,ih,List.getElem?_cons_succ];congr 3;omega
theorem zek(ms:List Int)(cs:List InsD):∀(j i:Nat),(∀(k:Nat) t,k<j->cs[k]?=some t->yW ms ((i+k:Nat):Int) t=0)->zcd ms cs i=zcd ms (cs.drop j) (i+j):=by
 induction cs with
 |nil=>intro j i _;simp[zcd]
 |cons t r ih=>
  intro j i h;cases j with
  |zero=>simp
  |succ j=>
   have h0:yW ms i t=0:=h 0 t (by omega) rfl
   rw[zcd,if_pos h0,ih j (i+1) (fun k u b a=>by
    have:=h (k+1) u (by omega) (by simpa using a)
    rw[<-this];congr 2
    omega),zoU]
   congr 1
   omega
theorem zk9{ms:List Int}{cs:List InsD}{j:Nat}{t:InsD}(h:∀(k:Nat) t,k<j->cs[k]?=some t->yW ms k t=0)(a:cs[j]?=some t)(hb:yW ms j t≠0):zcd ms cs 0=(yW ms j t,(j:Int)):=by
 obtain⟨b,e⟩:=zok.1 a;rw[zek ms cs j 0 (fun k t c a=>by rw[zoK];exact h k t c a),zoM b,e,zcd,zoK,if_neg hb]
theorem ziW{ms:List Int}{cs:List InsD}(h:∀(k:Nat) t,k<cs.length->cs[k]?=some t->yW ms k t=0):zcd ms cs 0=(0,0):=by
 rw[zek ms cs cs.length 0 (fun k t b a=>by rw[zoK];exact h k t b a),zoP,zcd]
def zaG(ms:List Int)(slots:Int)(ts:List ShapeD)(cs:List InsD)(w:World)(e:Ending)(w':World):Prop:=
 ∃q:ProgD,e=.returned (.tuple #[q.v,.agg #[.int .i64 (kU ms slots ts cs).1,.int .i64 (kU ms slots ts cs).2]])/\q.slots=zgF ms slots ts cs/\q.ts=zgG ms slots ts cs/\q.cs=zgH ms slots ts cs/\q.lie w'/\q.small/\Below w.heap.size w w'
def anilD:ProgD:=⟨0,⟨none,0,0⟩,[],⟨none,0,0⟩,[]⟩
theorem ziX(w:World):anilD.lie w:=⟨by decide,fun _=>⟨rfl,rfl⟩,fun _=>⟨rfl,rfl⟩,⟨rfl,fun i d h=>by simp[anilD]at h⟩,⟨rfl,fun i d h=>by simp[anilD]at h⟩⟩
theorem zel{ms:List Int}{slots:Int}{ts:List ShapeD}{cs:List InsD}{w w':World}{c a:Int}(h:kU ms slots ts cs=(c,a))(e:c≠0)(b:Below w.heap.size w w'):zaG ms slots ts cs w (.returned (.tuple #[.agg #[.int .i64 0,.slice none 0 0,.slice none 0 0],.agg #[.int .i64 c,.int .i64 a]])) w':=by
 have d:(kU ms slots ts cs).1≠0:=by rw[h];exact e
 refine⟨anilD,by rw[h];rfl,?_,?_,?_,ziX w',⟨zon _,zon _⟩,b⟩
 ·unfold zgF;rw[if_pos d];rfl
 ·unfold zgG;rw[if_pos d];rfl
 ·unfold zgH;rw[if_pos d];rfl
theorem zhp{ms:List Int}{slots:Int}{ts:List ShapeD}{cs:List InsD}{w w':World}(q:ProgD)(h:kU ms slots ts cs=(0,0))(c:q.slots=slots)(h2:q.ts=ts)(e:q.cs=kL ms cs 0)(d:q.lie w')(a:q.small)(b:Below w.heap.size w w'):zaG ms slots ts cs w (.returned (.tuple #[q.v,.agg #[.int .i64 0,.int .i64 0]])) w':=by
 have h0:¬(kU ms slots ts cs).1≠0:=by rw[h];exact fun h=>h rfl
 refine⟨q,by rw[h],?_,?_,?_,d,a,b⟩
 ·unfold zgF;rw[if_neg h0];exact c
 ·unfold zgG;rw[if_neg h0];exact h2
 ·unfold zgH;rw[if_neg h0];exact e
theorem yx{w:World}{p:Nat}{cs:Array Value}{T:TypeId}(h:w.heap[p]?=some (.cells cs T (0,0)))(i:Nat)(v:Value):(w.setCell ⟨p,i,none⟩ v).heap[p]?=some (.cells (cs.setIfInBounds i v) T (0,0)):=by
 simp[World.setCell,Array.getElem?_modify,h]
theorem jc{w:World}{base n c k p:Nat}{T d:TypeId}{a:Option Addr}{i:List Value}{cs:Array Value}{f:Nat × Nat}(h:w.ownsRow base T k (.slice a n c) n i)(l:w.heap[p]?=some (.cells cs d f))(g:d≠T){ad:Addr}(ha:a=some ad):ad.block≠p:=by
 intro e;obtain⟨⟨j,b⟩,_⟩:=jO h ha;rw[e,l]at b;simp only[zoo,Obj.cells.injEq]at b;exact g b.2.1
structure zlc (w : World) (d : LabD) : Prop where
 c0 : w.cell? ⟨d.p, 0, none⟩ = some (.slice d.la d.cs.length d.lc)
 c1 : w.cell? ⟨d.p, 1, none⟩ = some (.slice d.ma d.ms.length d.mc)
 z0 : w.frozen? ⟨d.p, 0, none⟩ = false
 z1 : w.frozen? ⟨d.p, 1, none⟩ = false
 l : d.p < w.heap.size
theorem zdV{w:World}{d:LabD}{T:TypeId}(h:w.heap[d.p]?=some (.cells #[.slice d.la d.cs.length d.lc,.slice d.ma d.ms.length d.mc] T (0,0))):zlc w d:=
 ⟨zj h 0,zj h 1,by simp[World.frozen?,h],by simp[World.frozen?,h],(zoj.1 h).1⟩
theorem LabAt.lbox{T:TypeId}{B:Nat}{d:LabD}{w:World}(h:LabAt T B d w):zlc w d:=zdV h.box
def AT(T:TypeId):Prop:=T≠126/\T≠3
@[reducible] def LabD.withM(d:LabD)(a:Option Addr)(c:Nat)(ms:List Int):LabD:=⟨d.p,d.la,d.lc,a,c,d.cs,ms⟩
@[reducible] def LabD.withC(d:LabD)(a:Option Addr)(c:Nat)(cs:List InsD):LabD:=⟨d.p,a,c,d.ma,d.mc,cs,d.ms⟩
theorem zhr{T:TypeId}{B:Nat}{d:LabD}{w:World}(h:LabAt T B d w)(s:AT T)(C:B<=w.heap.size)(E:d.ms.length<=100000):
 ∃g cap w',(Builtin.append_ #[23,23] 23 #[.slice d.ma d.ms.length d.mc,.slice (some ⟨w.heap.size,0,none⟩) 1 1]).run Tryz.prog (w.alloc (.cells #[.int .i64 (-1)] 3))=.ok (.slice (some ⟨g,0,none⟩) (d.ms.length+1) cap) w'/\zlc w' d/\
  LabAt T B (d.withM (some ⟨g,0,none⟩) cap (d.ms++[-1])) (w'.setCell ⟨d.p,1,none⟩ (.slice (some ⟨g,0,none⟩) (d.ms.length+1) cap))/\LabTo d (d.withM (some ⟨g,0,none⟩) cap (d.ms++[-1])) w (w'.setCell ⟨d.p,1,none⟩ (.slice (some ⟨g,0,none⟩) (d.ms.length+1) cap)):=by
 have b:Below w.heap.size w (w.alloc (.cells #[.int .i64 (-1)] 3)):=ze (zof _ _);obtain⟨g,cap,w',o,y,i,a⟩:=za9 (w:=w.alloc (.cells #[.int .i64 (-1)] 3)) (ad:=⟨w.heap.size,0,none⟩) (m:=1) (c:=1) (news:=kT (-1)) 23 Tryz.underlying23 Tryz.ainfoInt rfl (by decide) (zZ h.marks b) rfl (za8 (cs:=kT (-1))) (ziV (-1)) (by decide) (by unfold maxLen;omega) (by omega) (zoz C b.size)
 have u:w'.heap[d.p]?=some (.cells #[.slice d.la d.cs.length d.lc,.slice d.ma d.ms.length d.mc] T (0,0)):=by
  have n:=(zoj.1 h.box).1;rw[i.block d.p (zom n b.size) ?_,b.block d.p n]
  ·exact h.box
  ·intro e;cases ha:d.ma with
   |none=>rw[ha]at e;simp[Value.ownBlock]at e
   |some ad=>
    rw[ha]at e;simp only[Value.ownBlock,zoo]at e;exact jc h.marks h.box s.2 ha e.symm
 have t:g≠d.p:=by
  intro e;exact jc y u s.2 (ad:=⟨g,0,none⟩) rfl e
 have r:∀k,k<w.heap.size->¬d.own k->w'.heap[k]?=w.heap[k]?:=fun k f hd=>by
  rw[i.block k (zom f b.size) ?_,b.block k f];intro e;cases ha:d.ma with
  |none=>rw[ha]at e;simp[Value.ownBlock]at e
  |some ad=>
   rw[ha]at e;simp only[Value.ownBlock,zoo]at e;exact hd (.inr (.inr ⟨ad,ha,e⟩))
 refine⟨g,cap,w',o,zdV u,⟨?_,h.lo,?_,?_,h.wf,?_⟩,⟨i.os,i.tape,i.output,?_,?_,?_⟩⟩
 ·have:=yx u 1 (.slice (some ⟨g,0,none⟩) (d.ms.length+1) cap);simpa using this
 ·refine xA h.code fun ad ha=>?_
  rw[zop _ _ _ _ (by exact jc h.code h.box s.1 ha)]
  have n:=(zdR h.code ha).2;rw[i.block _ (zom n b.size) ?_,b.block _ n];intro e;cases j:d.ma with
  |none=>rw[j]at e;simp[Value.ownBlock]at e
  |some ad2=>
   rw[j]at e;simp only[Value.ownBlock,zoo]at e;obtain⟨⟨c1,q⟩,_⟩:=jO h.code ha;obtain⟨⟨c2,x⟩,_⟩:=jO h.marks j;rw[e,x]at q;simp at q
 ·have A:(d.ms++[(-1:Int)]).flatMap kT=d.ms.flatMap kT++kT (-1):=by simp[kT]
  have D:(d.ms++[(-1:Int)]).length=d.ms.length+1:=by simp
  show World.ownsRow _ B 3 1 (.slice (some ⟨g,0,none⟩) (d.ms++[(-1:Int)]).length cap) (d.ms++[(-1:Int)]).length ((d.ms++[(-1:Int)]).flatMap kT);rw[A,D];refine xA y fun ad ha=>?_
  obtain rfl:=zoq ha;exact zop _ _ _ _ (by exact t)
 ·intro m l;rcases List.mem_append.1 l with l|l
  ·exact h.wm m l
  ·simp only[List.mem_singleton]at l;subst l;exact⟨by omega,by show(-1:Int)<=(d.cs.length:Int);omega⟩
 ·rw[zow];exact zoz b.size i.size
 ·intro k f hd;rw[zop _ _ _ _ (by show k≠d.p;exact fun e=>hd (.inl e))]
  exact r k f hd
 ·intro k f;rcases f with f|⟨ad,ha,e⟩|⟨ad,ha,e⟩
  ·exact .inl (.inl f)
  ·exact .inl (.inr (.inl ⟨ad,ha,e⟩))
  ·obtain rfl:=zoq ha;subst e;rcases a with a|a
   ·exact .inl (.inr (.inr ⟨_,a,rfl⟩))
   ·exact .inr (zoz b.size a)
theorem zi2{T:TypeId}{B:Nat}{d:LabD}{w y:World}(h:LabAt T B d w)(C:AT T)(K:B<=w.heap.size)(a:Below w.heap.size w y){ad:Addr}{m c:Nat}{xs:List InsD}(i:xs.length=m)(hs:∀j u,(xs.flatMap yL)[j]?=some u->y.cell? (ad.add j)=some u)(hw:∀x∈xs,x.wf)(J:0<m)(N:d.cs.length+m<=100000):
 ∃g cap w',(Builtin.append_ #[42,42] 42 #[.slice d.la d.cs.length d.lc,.slice (some ad) m c]).run Tryz.prog y=.ok (.slice (some ⟨g,0,none⟩) (d.cs.length+m) cap) w'/\zlc w' d/\
  LabAt T B (d.withC (some ⟨g,0,none⟩) cap (d.cs++xs)) (w'.setCell ⟨d.p,0,none⟩ (.slice (some ⟨g,0,none⟩) (d.cs.length+m) cap))/\LabTo d (d.withC (some ⟨g,0,none⟩) cap (d.cs++xs)) w (w'.setCell ⟨d.p,0,none⟩ (.slice (some ⟨g,0,none⟩) (d.cs.length+m) cap)):=by
 have s:(xs.flatMap yL).length=m*6:=by rw[zdY (k:=6) (fun _=>rfl),i]
 have q:∀u∈xs.flatMap yL,u.oneCell'=true:=fun u L=>by
  obtain⟨x,_,b⟩:=List.mem_flatMap.1 L;exact zeD x u b
 obtain⟨g,cap,w',r,G,n,f⟩:=za9 (w:=y) (ad:=ad) (m:=m) (c:=c) (news:=xs.flatMap yL) 42 Tryz.underlying42 Tryz.ginfoIns rfl (by decide) (zZ h.code a) s hs q J (by unfold maxLen;omega) (by omega) (zoz K a.size)
 have b:w'.heap[d.p]?=some (.cells #[.slice d.la d.cs.length d.lc,.slice d.ma d.ms.length d.mc] T (0,0)):=by
  have i:=(zoj.1 h.box).1;rw[n.block d.p (zom i a.size) ?_,a.block d.p i]
  ·exact h.box
  ·intro e;cases ha:d.la with
   |none=>rw[ha]at e;simp[Value.ownBlock]at e
   |some ad=>
    rw[ha]at e;simp only[Value.ownBlock,zoo]at e;exact jc h.code h.box C.1 ha e.symm
 have D:g≠d.p:=by
  intro e;exact jc G b C.1 (ad:=⟨g,0,none⟩) rfl e
 have A:∀k,k<w.heap.size->¬d.own k->w'.heap[k]?=w.heap[k]?:=fun k l hd=>by
  rw[n.block k (zom l a.size) ?_,a.block k l];intro e;cases ha:d.la with
  |none=>rw[ha]at e;simp[Value.ownBlock]at e
  |some ad=>
   rw[ha]at e;simp only[Value.ownBlock,zoo]at e;exact hd (.inr (.inl ⟨ad,ha,e⟩))
 refine⟨g,cap,w',r,zdV b,⟨?_,h.lo,?_,?_,?_,?_⟩,⟨n.os.trans a.os,n.tape.trans a.tape,n.output.trans a.output,?_,?_,?_⟩⟩
 ·have:=yx b 0 (.slice (some ⟨g,0,none⟩) (d.cs.length+m) cap);simpa[i]using this
 ·have I:(d.cs++xs).flatMap yL=d.cs.flatMap yL++xs.flatMap yL:=List.flatMap_append;have M:(d.cs++xs).length=d.cs.length+m:=by rw[zor,i]
  show World.ownsRow _ B 126 6 (.slice (some ⟨g,0,none⟩) (d.cs++xs).length cap) (d.cs++xs).length ((d.cs++xs).flatMap yL);rw[I,M];refine xA G fun ad ha=>?_
  obtain rfl:=zoq ha;exact zop _ _ _ _ (by exact D)
 ·refine xA h.marks fun ad ha=>?_
  rw[zop _ _ _ _ (by exact jc h.marks h.box C.2 ha)]
  have i:=(zdR h.marks ha).2;rw[n.block _ (zom i a.size) ?_,a.block _ i];intro e;cases o:d.la with
  |none=>rw[o]at e;simp[Value.ownBlock]at e
  |some ad2=>
   rw[o]at e;simp only[Value.ownBlock,zoo]at e;obtain⟨⟨c1,t⟩,_⟩:=jO h.marks ha;obtain⟨⟨c2,F⟩,_⟩:=jO h.code o;rw[e,F]at t;simp at t
 ·intro x b;rcases List.mem_append.1 b with b|b
  ·exact h.wf x b
  ·exact hw x b
 ·intro H E;have:=h.wm H E;refine⟨this.1,?_⟩;show H<=((d.cs++xs).length:Int);rw[zor];omega
 ·rw[zow];exact zoz a.size n.size
 ·intro k l hd;rw[zop _ _ _ _ (by show k≠d.p;exact fun e=>hd (.inl e))]
  exact A k l hd
 ·intro k l;rcases l with l|⟨ad,ha,e⟩|⟨ad,ha,e⟩
  ·exact .inl (.inl l)
  ·obtain rfl:=zoq ha;subst e;rcases f with f|f
   ·exact .inl (.inr (.inl ⟨_,f,rfl⟩))
   ·exact .inr (zoz a.size f)
  ·exact .inl (.inr (.inr ⟨ad,ha,e⟩))
theorem zi3{T:TypeId}{B:Nat}{d:LabD}{w:World}(h:LabAt T B d w){l:Nat}(b:l<d.ms.length):∃g,d.ma=some ⟨g,0,none⟩/\w.cell? ⟨g,l,none⟩=some (.int .i64 (d.ms.getD l 0))/\w.frozen? ⟨g,l,none⟩=false/\g<w.heap.size:=by
 have a:=h.marks;rcases a.2 with⟨_,e⟩|⟨g,cap,c,e,_⟩
 ·omega
 ·simp only[zox,true_and]at e;rw[e.1]at a;refine⟨g,e.1,?_,a.frozenAt l,(a.lt g rfl).2⟩;rw[a.cellAt l (by omega)]
  have:=zcv (cells:=kT) (k:=1) (fun _=>rfl) (S:=d.ms) (i:=l) (r:=0) (s:=d.ms[l]) (u:=.int .i64 d.ms[l]) (zoh b) rfl
  rw[Nat.mul_one,Nat.add_zero]at this;rw[this,zoi,zoh b,zoC]
theorem zi4(ms:List Int)(l:Nat)(v:Int):(ms.set l v).flatMap kT=(ms.flatMap kT).set l (.int .i64 v):=by
 induction ms generalizing l with
 |nil=>simp
 |cons m r ih=>
  cases l with
  |zero=>simp[kT]
  |succ l=>
   rw[List.set_cons_succ,List.flatMap_cons,List.flatMap_cons,ih];simp[kT]
theorem zi5{T:TypeId}{B:Nat}{d:LabD}{w:World}(h:LabAt T B d w)(q:AT T){l g:Nat}(b:d.ma=some ⟨g,0,none⟩):
 LabAt T B (d.withM d.ma d.mc (d.ms.set l d.cs.length)) (w.setCell ⟨g,l,none⟩ (.int .i64 d.cs.length))/\LabTo d (d.withM d.ma d.mc (d.ms.set l d.cs.length)) w (w.setCell ⟨g,l,none⟩ (.int .i64 d.cs.length)):=by
 have f:=h.marks;have j:=jc f h.box q.2 b;have hb:=h.box;rw[b]at f;obtain⟨s1,s2⟩:=f.stored l (.int .i64 d.cs.length);refine⟨⟨?_,h.lo,?_,?_,h.wf,?_⟩,⟨rfl,rfl,rfl,s2.size,?_,?_⟩⟩
 ·show(w.setCell _ _).heap[d.p]?=some (.cells #[.slice d.la d.cs.length d.lc,.slice d.ma (d.ms.set l d.cs.length).length d.mc] T (0,0));rw[zop _ _ _ _ (by show d.p≠g;exact fun e=>j e.symm),List.length_set]
  exact hb
 ·refine xA h.code fun ad ha=>?_
  refine zop _ _ _ _ ?_;show ad.block≠g;intro e;obtain⟨⟨c1,a⟩,_⟩:=jO h.code ha;obtain⟨⟨c2,c⟩,_⟩:=jO h.marks b;rw[e,c]at a;simp at a
 ·show(w.setCell _ _).ownsRow B 3 1 (.slice d.ma (d.ms.set l d.cs.length).length d.mc) (d.ms.set l d.cs.length).length ((d.ms.set l d.cs.length).flatMap kT);rw[zi4,List.length_set,b];exact s1
 ·intro m n;rcases List.mem_or_eq_of_mem_set n with i|i
  ·exact h.wm m i
  ·subst i;exact⟨by omega,Int.le_refl _⟩
 ·intro k o hd;exact zop _ _ _ _ (by show k≠g;exact fun e=>hd (.inr (.inr ⟨_,b,e⟩)))
 ·intro k o;exact .inl o
def jM(T:TypeId)(B:Nat)(d:LabD)(w:World)(v:Value)(cs:List InsD)(ms:List Int)(e:Ending)(w':World):Prop:=
 ∃a:LabD,e=.returned v/\LabAt T B a w'/\LabTo d a w w'/\a.p=d.p/\a.cs=cs/\a.ms=ms
theorem LabTo.refl(d:LabD)(w:World):LabTo d d w w:=⟨rfl,rfl,rfl,zos _,fun _ _ _=>rfl,fun _ h=>.inl h⟩
theorem LabTo.drew{d a:LabD}{w w':World}(h:LabTo d a w w'):LabTo d a w w'.drew:=⟨h.os,h.tape,h.output,h.size,h.old,h.fresh⟩
theorem LabAt.drew{T:TypeId}{B:Nat}{d:LabD}{w:World}(h:LabAt T B d w):LabAt T B d w.drew:=h.step (zof _ _).drew
theorem zfA:AT 132:=⟨by decide,by decide⟩
@[reducible] def zcf(p:Nat):Value:=.pointer (some ⟨p,0,none⟩)
def zay(ms:List Int)(l:Int):Bool:=decide (0<=l)&&decide (l<(ms.length:Int))
def zaz(ms:List Int)(l:Int):Bool:=zay ms l&&decide (ms.getD l.toNat 0= -1)
theorem znX(w:World):Calls Tryz.prog 36 #[] w fun e w'=>e=.returned (zcf w.heap.size)/\w'=w.alloc (.cells #[.slice none 0 0,.slice none 0 0] 132):=by
 go_enter Tryz.func36,Tryz.ntmps36
 go_wp2;go_ret;exact⟨rfl,rfl⟩
theorem zld(T:TypeId)(B:Nat)(w:World)(b:B<=w.heap.size):LabAt T B ⟨w.heap.size,none,0,none,0,[],[]⟩ (w.alloc (.cells #[.slice none 0 0,.slice none 0 0] T)):=
 ⟨zK _ _ _,b,zoH _ _ _ _,zoH _ _ _ _,fun x a=>by simp at a,fun x a=>by simp at a⟩
theorem zng{T:TypeId}{B:Nat}{d:LabD}{w:World}(h:LabAt T B d w)(l:Int):Calls Tryz.prog 84 #[zcf d.p,.int .i64 l] w fun e w'=>e=.returned (.bool (zay d.ms l))/\w'=w:=by
 obtain⟨c0,c1,z0,z1,b⟩:=h.lbox;clear h;unfold zay;by_cases a:0<=l
 ·rw[zoY a,Bool.true_and];go_enter Tryz.func84,Tryz.ntmps84
  go_wp2;go_ret;exact⟨rfl,rfl⟩
 ·rw[zoX a,Bool.false_and];go_enter Tryz.func84,Tryz.ntmps84
  go_wp2;go_ret;exact⟨rfl,rfl⟩
theorem zmD(op:Int)(w:World):Calls Tryz.prog 49 #[.int .i64 op] w fun e w'=>e=.returned (.bool (ym op))/\w'=w:=by
 have h:ym op=(decide (op=9)||(decide (op=10)||(decide (op=11)||decide (op=12)))):=by
  by_cases d:op=9
  ·subst d;decide
  by_cases b:op=10
  ·subst b;decide
  by_cases c:op=11
  ·subst c;decide
  by_cases a:op=12
  ·subst a;decide
  rw[zoX d,zoX b,zoX c,zoX a];unfold ym zQ;repeat' split
  all_goals first
   |rfl
   |omega
 rw[h];clear h;by_cases d:op=9
 ·subst d;go_enter Tryz.func49,Tryz.ntmps49
  go_wp2;go_ret;exact⟨rfl,rfl⟩
 by_cases b:op=10
 ·subst b;go_enter Tryz.func49,Tryz.ntmps49
  go_wp2;go_ret;exact⟨rfl,rfl⟩
 by_cases c:op=11
 ·subst c;go_enter Tryz.func49,Tryz.ntmps49
  go_wp2;go_ret;exact⟨rfl,rfl⟩
 by_cases a:op=12
 ·subst a;go_enter Tryz.func49,Tryz.ntmps49
  go_wp2;go_ret;exact⟨rfl,rfl⟩
 rw[zoX d,zoX b,zoX c,zoX a];have j:(op==9)=false:=by simpa using d
 have i:(op==10)=false:=by simpa using b
 have f:(op==11)=false:=by simpa using c
 have g:(op==12)=false:=by simpa using a
 go_enter Tryz.func49,Tryz.ntmps49
 go_wp2;go_ret;exact⟨rfl,rfl⟩
theorem zmE{B:Nat}{d:LabD}{w:World}(h:LabAt 132 B d w)(e:B<=w.heap.size)(i:d.ms.length<=100000):Calls Tryz.prog 39 #[zcf d.p] w (jM 132 B d w (.int .i64 d.ms.length) d.cs (d.ms++[-1])):=by
 obtain⟨c0,c1,z0,z1,j⟩:=h.lbox;obtain⟨g,cap,w',b,⟨l,m,y0,y1,k⟩,c,a⟩:=zhr h zfA e i;have f:Hid (jM 132 B d w (.int .i64 d.ms.length) d.cs (d.ms++[-1]) (.returned (.int .i64 d.ms.length)) (w'.setCell ⟨d.p,1,none⟩ (.slice (some ⟨g,0,none⟩) (d.ms.length+1) cap))):=⟨_,rfl,c,a,rfl,rfl,rfl⟩;clear h c a;go_enter Tryz.func39,Tryz.ntmps39
 go_wp2_with (at_builtin;refine jj rfl _ _ rfl rfl rfl b ?_)
 exact bodyPost_ret (v:=.int .i64 d.ms.length) (by simp[results,Tryz.results39,go_sem]) rfl f.out
theorem znh{B:Nat}{d:LabD}{w:World}(h:LabAt 132 B d w)(l:Int):Calls Tryz.prog 72 #[zcf d.p,.int .i64 l] w (jM 132 B d w (.bool (zaz d.ms l)) d.cs (if zaz d.ms l=true then d.ms.set l.toNat d.cs.length else d.ms)):=by
 obtain⟨c0,c1,z0,z1,E⟩:=h.lbox;have i:=hid (zng h l);by_cases h0:l<0
 ·have e:zaz d.ms l=false:=by unfold zaz zay;rw[zoX (by omega:¬0<=l)];simp
  rw[e,if_neg (by decide)]
  have f:Hid (jM 132 B d w (.bool false) d.cs d.ms (.returned (.bool false)) w):=⟨d,rfl,h,LabTo.refl _ _,rfl,rfl,rfl⟩;have b:zay d.ms l=false:=by unfold zay;rw[zoX (by omega:¬0<=l),Bool.false_and]
  rw[b]at i;clear b;clear h e;go_enter Tryz.func72,Tryz.ntmps72
  go_wp2_with fail
  refine i.out.mono ?_;rintro e q ⟨rfl,rfl⟩;go_wp2;exact bodyPost_ret (v:=.bool false) (by simp[results,Tryz.results72,go_sem]) rfl f.out
 by_cases u:(d.ms.length:Int)<=l
 ·have e:zaz d.ms l=false:=by unfold zaz zay;rw[zoX (by omega:¬l<(d.ms.length:Int))];simp
  rw[e,if_neg (by decide)]
  have f:Hid (jM 132 B d w (.bool false) d.cs d.ms (.returned (.bool false)) w):=⟨d,rfl,h,LabTo.refl _ _,rfl,rfl,rfl⟩;have b:zay d.ms l=false:=by unfold zay;rw[zoX (by omega:¬l<(d.ms.length:Int)),Bool.and_false]
  rw[b]at i;clear b;clear h e;go_enter Tryz.func72,Tryz.ntmps72
  go_wp2_with fail
  refine i.out.mono ?_;rintro e q ⟨rfl,rfl⟩;go_wp2;exact bodyPost_ret (v:=.bool false) (by simp[results,Tryz.results72,go_sem]) rfl f.out
 obtain⟨n,rfl⟩:∃n:Nat,l=(n:Int):=⟨l.toNat,by omega⟩
 have A:n<d.ms.length:=by omega
 obtain⟨g,c,t,fz,gl⟩:=zi3 h A;have k:(0:Int)<=(n:Int):=by omega
 have m:(n:Int)<(d.ms.length:Int):=by omega
 have o:((n:Int)).toNat=n:=by omega
 have s:zaz d.ms (n:Int)=decide (d.ms.getD n 0= -1):=by
  unfold zaz zay;rw[zoY k,zoY m,o];simp
 rw[s,o];clear s;have b:zay d.ms (n:Int)=true:=by unfold zay;rw[zoY k,zoY m,Bool.and_self]
 rw[b]at i;clear b;by_cases a:d.ms.getD n 0= -1
 ·rw[zoY a,if_pos rfl];obtain⟨x,j⟩:=zi5 (l:=n) h zfA c;have f:Hid (jM 132 B d w (.bool true) d.cs (d.ms.set n d.cs.length) (.returned (.bool true)) (w.setCell ⟨g,n,none⟩ (.int .i64 d.cs.length)).drew):=⟨_,rfl,x.drew,j.drew,rfl,rfl,rfl⟩;rw[a]at t;rw[c]at c1;have y:=hid c;have C:=hid a;clear h x j c a h0 u;go_enter Tryz.func72,Tryz.ntmps72
  go_wp2_with fail
  refine i.out.mono ?_;rintro e q ⟨rfl,rfl⟩;go_wp2_with fail
  go_region
  all_goals
   go_wp2;exact bodyPost_ret (v:=.bool true) (by simp[results,Tryz.results72,go_sem]) rfl f.out
 ·rw[zoX a,if_neg (by decide)]
  have f:Hid (jM 132 B d w (.bool false) d.cs d.ms (.returned (.bool false)) w):=⟨d,rfl,h,LabTo.refl _ _,rfl,rfl,rfl⟩;obtain⟨r,hmm⟩:∃r,r=d.ms.getD n 0:=⟨_,rfl⟩;rw[<-hmm]at t a;rw[c]at c1;have hb:(r != -1)=true:=by simpa using a
  have y:=hid c;have C:=hid a;have D:=hid hmm;clear h c a hmm h0 u;go_enter Tryz.func72,Tryz.ntmps72
  go_wp2_with fail
  refine i.out.mono ?_;rintro e q ⟨rfl,rfl⟩;go_wp2;exact bodyPost_ret (v:=.bool false) (by simp[results,Tryz.results72,go_sem]) rfl f.out
theorem zni{B:Nat}{d:LabD}{w:World}(h:LabAt 132 B d w)(k:B<=w.heap.size){ad:Addr}{m c:Nat}{xs:List InsD}(e:xs.length=m)(hs:∀j u,(xs.flatMap yL)[j]?=some u->w.cell? (ad.add j)=some u)(hw:∀x∈xs,x.wf)(i:0<m)(n:d.cs.length+m<=100000):Calls Tryz.prog 42 #[zcf d.p,.slice (some ad) m c] w (jM 132 B d w (.tuple #[]) (d.cs++xs) d.ms):=by
 obtain⟨c0,c1,z0,z1,q⟩:=h.lbox;obtain⟨g,cap,w',b,⟨s,y,y0,y1,r⟩,f,a⟩:=zi2 (c:=c) h zfA k (zof _ _) e hs hw i n;have l:Hid (jM 132 B d w (.tuple #[]) (d.cs++xs) d.ms (.returned (.tuple #[])) (w'.setCell ⟨d.p,0,none⟩ (.slice (some ⟨g,0,none⟩) (d.cs.length+m) cap))):=⟨_,rfl,f,a,rfl,rfl,rfl⟩;have t:=hid hs;have o:=hid e;clear h f a hs e hw;go_enter Tryz.func42,Tryz.ntmps42
 go_wp2_with (at_builtin;refine jj rfl _ _ rfl rfl rfl b ?_)
 exact bodyPost_ret (v:=.tuple #[]) (by simp[results,Tryz.results42,go_sem]) rfl l.out
def BC(w w':World):Prop:=w.heap.size<=w'.heap.size/\∀(k:Nat) (c:Array Value) (T:TypeId) (f:Nat × Nat),w.heap[k]?=some (.cells c T f)->c≠#[]->w'.heap[k]?=some (.cells c T f)
theorem zbZ{w:World}{g o:Nat}{v:Value}(h:w.cell? ⟨g,o,none⟩=some v):∃c T f,w.heap[g]?=some (.cells c T f)/\c≠#[]/\c[o]?=some v:=by
 cases hb:w.heap[g]? with
 |none=>simp[World.cell?,hb]at h
 |some ob=>
  cases ob with
  |cells c T f=>
   rw[zj hb]at h;exact⟨c,T,f,rfl,fun e=>by rw[e]at h;simp at h,h⟩
  |_=>simp[World.cell?,hb]at h
theorem BC.cov{w w':World}(h:BC w w'):Cov w w':=⟨h.1,fun g o v d=>by
 obtain⟨c,T,f,hb,b,a⟩:=zbZ d;rw[zj (h.2 g c T f hb b)];exact a⟩
theorem BC.trans{w a b:World}(h:BC w a)(e:BC a b):BC w b:=⟨zoz h.1 e.1,fun k c T f hb d=>e.2 k c T f (h.2 k c T f hb d) d⟩
theorem BC.below{a w w':World}(h:BC a w)(b:Below w.heap.size w w'):BC a w':=⟨zoz h.1 b.size,fun k c T f hb d=>by
 have:=h.2 k c T f hb d;rw[b.block k (zoj.1 this).1];exact this⟩
structure MK (W0 : World) (B : Nat) (d : LabD) (w : World) : Prop where
 lab : LabAt 132 B d w
 bc : BC W0 w
 ap : ∀ k, d.own k -> ∀ o v, W0.cell? ⟨k, o, none⟩ = some v -> False
 lo : B <= w.heap.size
theorem zas{a w w':World}(h:Cov a w)(b:Below w.heap.size w w'):Cov a w':=⟨zoz h.1 b.size,fun g o v c=>za (h.2 g o v c) b⟩
theorem MK.cov{a:World}{B:Nat}{d:LabD}{w:World}(h:MK a B d w):Cov a w:=h.bc.cov
theorem MK.step{a:World}{B:Nat}{d:LabD}{w w':World}(h:MK a B d w)(b:Below w.heap.size w w'):MK a B d w':=⟨h.lab.step b,h.bc.below b,h.ap,zoz h.lo b.size⟩
theorem MK.turn{b:World}{B:Nat}{d a:LabD}{w w':World}(h:MK b B d w)(t:LabTo d a w w')(n:LabAt 132 B a w'):MK b B a w':=by
 refine⟨n,⟨zoz h.bc.1 t.size,fun k c T f hb i=>?_⟩,fun k m o v j=>?_,zoz h.lo t.size⟩
 ·have hw:=h.bc.2 k c T f hb i;have q:=(zoj.1 hw).1;rw[t.old k q fun l=>?_]
  ·exact hw
  ·have h0:0<c.size:=Nat.pos_of_ne_zero fun e=>i (Array.eq_empty_of_size_eq_zero e)
   exact h.ap k l 0 c[0] (by rw[zj hb];exact zoT h0)
 ·rcases t.fresh k m with g|g
  ·exact h.ap k g o v j
  ·have:=zog _ _ j;have h2:=h.cov.1;have:k<b.heap.size:=this;omega
theorem MK.less{a b:World}{B:Nat}{d:LabD}{w:World}(h:MK b B d w)(c:BC a b):MK a B d w:=⟨h.lab,c.trans h.bc,fun k f o v e=>h.ap k f o v (c.cov.2 k o v e),h.lo⟩
def St(a:World)(B pa:Nat)(cs:List InsD)(ms:List Int)(w:World):Prop:=∃d:LabD,MK a B d w/\d.p=pa/\d.cs=cs/\d.ms=ms
def Em(a:World)(B pa:Nat)(w:World)(v:Value)(cs:List InsD)(ms:List Int)(e:Ending)(w':World):Prop:=e=.returned v/\St a B pa cs ms w'/\Below B w w'
theorem St.cov{a:World}{B pa:Nat}{cs:List InsD}{ms:List Int}{w:World}(h:St a B pa cs ms w):Cov a w:=by
 obtain⟨d,h,_⟩:=h;exact h.cov
theorem St.lo{a:World}{B pa:Nat}{cs:List InsD}{ms:List Int}{w:World}(h:St a B pa cs ms w):B<=w.heap.size:=by
 obtain⟨d,h,_⟩:=h;exact h.lo
theorem St.step{a:World}{B pa:Nat}{cs:List InsD}{ms:List Int}{w w':World}(h:St a B pa cs ms w)(b:Below w.heap.size w w'):St a B pa cs ms w':=by
 obtain⟨d,h,r⟩:=h;exact⟨d,h.step b,r⟩
theorem St.less{a b:World}{B pa:Nat}{cs:List InsD}{ms:List Int}{w:World}(h:St b B pa cs ms w)(c:BC a b):St a B pa cs ms w:=by
 obtain⟨d,h,r⟩:=h;exact⟨d,h.less c,r⟩
theorem zd1(F:Nat->Prop)(w:World):BC (mask F (fun _=>Classical.propDecidable _) w) w:=by
 refine⟨Nat.le_of_eq (yb F w),fun k c T f hb a=>?_⟩
 by_cases hF:F k
 ·have b:k<w.heap.size:=by have:=(zoj.1 hb).1;rwa[yb]at this
  rw[kZ hF b]at hb;simp only[zoo,Obj.cells.injEq]at hb;exact absurd hb.1.symm a
 ·rw[yA hF]at hb;exact hb
theorem MK.wide{e:World}{B:Nat}{d:LabD}{w:World}(h:MK e B d w):MK (mask d.own (fun _=>Classical.propDecidable _) w) B d w:=by
 refine⟨h.lab,zd1 _ _,fun k c o v b=>?_,h.lo⟩
 have a:=(h.lab.lows c).2;simp only[World.cell?,kZ c a]at b;simp at b
theorem St.wide{l:World}{B pa:Nat}{cs:List InsD}{ms:List Int}{w a:World}(h:St l B pa cs ms w)(b:Below w.heap.size w a):∃j,St j B pa cs ms a/\BC l j/\∀k,w.heap.size<=k->j.heap[k]?=a.heap[k]?:=by
 obtain⟨d,h,r⟩:=h;have i:=h.step b;refine⟨mask d.own (fun _=>Classical.propDecidable _) a,⟨d,i.wide,r⟩,⟨by rw[yb];exact i.bc.1,fun k c T f hb m=>?_⟩,fun k n=>yA fun g=>absurd (h.lab.lows g).2 (by omega)⟩
 have h0:0<c.size:=Nat.pos_of_ne_zero fun e=>m (Array.eq_empty_of_size_eq_zero e)
 rw[yA fun g=>h.ap k g 0 c[0] (by rw[zj hb];exact zoT h0)]
 exact i.bc.2 k c T f hb m
theorem zgT{g:World}{B:Nat}{d:LabD}{w f c:World}{v:Value}{cs:List InsD}{ms:List Int}{e:Ending}(h:MK g B d w)(b:Below w.heap.size w f)(s:jM 132 B d f v cs ms e c):Em g B d.p w v cs ms e c:=by
 obtain⟨j,k,n,i,o,m,l⟩:=s;have a:=h.step b;exact⟨k,⟨j,a.turn i n,o,m,l⟩,(b.mono h.lo).trans (i.below a.lab a.lo)⟩
theorem qU{f:World}{B pa:Nat}{cs:List InsD}{ms:List Int}{w:World}(h:St f B pa cs ms w)(xs:List InsD)(e:Array Value)(k:(xs.flatMap yL).toArray=e)(m:Nat)(l:xs.length=m)(hw:∀x∈xs,x.wf)(n:0<m)(o:cs.length+m<=100000)(T:TypeId):
 ∀a g,g=a.heap.size->Below w.heap.size w a->Calls Tryz.prog 42 #[.pointer (some ⟨pa,0,none⟩),.slice (some ⟨g,0,none⟩) m m] (a.alloc (.cells e T)) (Em f B pa w (.tuple #[]) (cs++xs) ms):=by
 rintro a g rfl b;obtain⟨d,h,rfl,rfl,rfl⟩:=h;subst k;have j:Below w.heap.size w (a.alloc (.cells (xs.flatMap yL).toArray T)):=ze b;have i:=h.step j;exact(zni (c:=m) i.lab i.lo l (za8 (w:=a) (T:=T) (cs:=xs.flatMap yL)) hw n o).mono fun _ _ s=>zgT h j s
theorem xy{f:World}{B pa:Nat}{cs:List InsD}{ms:List Int}{w:World}(h:St f B pa cs ms w)(xs:List InsD)(e:Array Value)(k:(xs.flatMap yL).toArray=e)(m:Nat)(l:xs.length=m)(hw:∀x∈xs,x.wf)(n:0<m)(o:cs.length+m<=100000)(T:TypeId):
 ∀a g,g=a.heap.size->Below w.heap.size w a->Calls Tryz.prog 42 #[.pointer (some ⟨pa,0,none⟩),.slice (some ⟨g,0,none⟩) m m] (a.alloc (.cells e T)).drew (Em f B pa w (.tuple #[]) (cs++xs) ms):=by
 rintro a g rfl b;obtain⟨d,h,rfl,rfl,rfl⟩:=h;subst k;have j:Below w.heap.size w (a.alloc (.cells (xs.flatMap yL).toArray T)).drew:=(ze b).drew;have i:=h.step j;exact(zni (c:=m) i.lab i.lo l (za8 (w:=a) (T:=T) (cs:=xs.flatMap yL)) hw n o).mono fun _ _ s=>zgT h j s
theorem zcA{a:World}{B pa:Nat}{cs:List InsD}{ms:List Int}{w:World}(h:St a B pa cs ms w)(b:ms.length<=100000):Calls Tryz.prog 39 #[.pointer (some ⟨pa,0,none⟩)] w (Em a B pa w (.int .i64 ms.length) cs (ms++[-1])):=by
 obtain⟨d,h,rfl,rfl,rfl⟩:=h;exact(zmE h.lab h.lo b).mono fun _ _ s=>zgT h (zof _ _) s
def jm(ms:List Int)(l:Int)(n:Nat):List Int:=if zaz ms l=true then ms.set l.toNat n else ms
theorem zbc{a:World}{B pa:Nat}{cs:List InsD}{ms:List Int}{w:World}(h:St a B pa cs ms w)(l:Int):Calls Tryz.prog 72 #[.pointer (some ⟨pa,0,none⟩),.int .i64 l] w (Em a B pa w (.bool (zaz ms l)) cs (jm ms l cs.length)):=by
 obtain⟨d,h,rfl,rfl,rfl⟩:=h;exact(znh h.lab l).mono fun _ _ s=>zgT h (zof _ _) s
structure LayD where
 fs : QSl
 fl : List HeadD
 th : QSl
 tl : List Int
 me : QSl
 ml : List Int
 port : Int
 ke : QSl
 kl : List Int
 sa : QSl
 sl : List Int
 slots : Int
structure LayD.lie (L : LayD) (w : World) : Prop where
 fs : QRow 1 HeadD.lie w L.fs L.fl
 th : Has .i64 w L.th.a L.th.n L.tl
 me : Has .i64 w L.me.a L.me.n L.ml
 ke : Has .i64 w L.ke.a L.ke.n L.kl
 sa : Has .i64 w L.sa.a L.sa.n L.sl
theorem LayD.lie.cov{L:LayD}{w w':World}(h:L.lie w)(c:Cov w w'):L.lie w':=⟨h.fs.cov (fun h c=>⟨h.1.cov c,h.2.cov c⟩) c,h.th.cov c,h.me.cov c,h.ke.cov c,h.sa.cov c⟩
structure MkrD where
 mb : Nat
 d : PlanD
 pa : Nat
 L : LayD
 st : QSl
 sl : List Int
 nd : QSl
 nl : List Int
 nw : Int
@[reducible] def MkrD.v(M:MkrD):Value:=.pointer (some ⟨M.mb,0,none⟩)
structure MBox (M : MkrD) (w : World) : Prop where
 c0 : w.cell? ⟨M.mb, 0, none⟩ = some (.slice M.d.heads.a M.d.heads.n M.d.heads.c)
 c1 : w.cell? ⟨M.mb, 1, none⟩ = some (.slice M.d.mta.a M.d.mta.n M.d.mta.c)
 c2 : w.cell? ⟨M.mb, 2, none⟩ = some (.slice M.d.states.a M.d.states.n M.d.states.c)
 c3 : w.cell? ⟨M.mb, 3, none⟩ = some (.slice M.d.acts.a M.d.acts.n M.d.acts.c)
 c4 : w.cell? ⟨M.mb, 4, none⟩ = some (.slice M.d.tabs.a M.d.tabs.n M.d.tabs.c)
 c5 : w.cell? ⟨M.mb, 5, none⟩ = some (.slice M.d.nodes.a M.d.nodes.n M.d.nodes.c)
 c6 : w.cell? ⟨M.mb, 6, none⟩ = some (.slice M.d.out.a M.d.out.n M.d.out.c)
 c7 : w.cell? ⟨M.mb, 7, none⟩ = some (zcf M.pa)
 c8 : w.cell? ⟨M.mb, 8, none⟩ = some (.slice M.L.fs.a M.L.fs.n M.L.fs.c)
 c9 : w.cell? ⟨M.mb, 9, none⟩ = some (.slice M.L.th.a M.L.th.n M.L.th.c)
 c10 : w.cell? ⟨M.mb, 10, none⟩ = some (.slice M.L.me.a M.L.me.n M.L.me.c)
 c11 : w.cell? ⟨M.mb, 11, none⟩ = some (.int .i64 M.L.port)
 c12 : w.cell? ⟨M.mb, 12, none⟩ = some (.slice M.L.ke.a M.L.ke.n M.L.ke.c)
 c13 : w.cell? ⟨M.mb, 13, none⟩ = some (.slice M.L.sa.a M.L.sa.n M.L.sa.c)
 c14 : w.cell? ⟨M.mb, 14, none⟩ = some (.int .i64 M.L.slots)
 c15 : w.cell? ⟨M.mb, 15, none⟩ = some (.slice M.st.a M.st.n M.st.c)
 c16 : w.cell? ⟨M.mb, 16, none⟩ = some (.slice M.nd.a M.nd.n M.nd.c)
 c17 : w.cell? ⟨M.mb, 17, none⟩ = some (.int .i64 M.nw)
theorem MBox.cov{M:MkrD}{w w':World}(h:MBox M w)(c:Cov w w'):MBox M w':=⟨c.2 _ _ _ h.c0,c.2 _ _ _ h.c1,c.2 _ _ _ h.c2,c.2 _ _ _ h.c3,c.2 _ _ _ h.c4,c.2 _ _ _ h.c5,c.2 _ _ _ h.c6,c.2 _ _ _ h.c7,c.2 _ _ _ h.c8,c.2 _ _ _ h.c9,c.2 _ _ _ h.c10,c.2 _ _ _ h.c11,c.2 _ _ _ h.c12,c.2 _ _ _ h.c13,c.2 _ _ _ h.c14,c.2 _ _ _ h.c15,c.2 _ _ _ h.c16,c.2 _ _ _ h.c17⟩
structure MkrAt (M : MkrD) (w : World) : Prop where
 box : MBox M w
 pl : M.d.lie w
 lay : M.L.lie w
 st : Has .i64 w M.st.a M.st.n M.sl
 nd : Has .i64 w M.nd.a M.nd.n M.nl
@[reducible] def xI(r n:Int):InsD:=⟨1,r,0,0,0,n⟩
@[reducible] def qu(r s k:Int):InsD:=⟨3,r,s,k,0,0⟩
@[reducible] def jB(r n:Int):InsD:=⟨7,r,0,0,0,n⟩
@[reducible] def kx(r n:Int):InsD:=⟨8,r,0,0,0,n⟩
@[reducible] def xB(l:Int):InsD:=⟨12,0,0,0,l,0⟩
@[reducible] def kH(r op n:Int):List InsD:=[xI 5 n,qu r 5 op]
@[reducible] def zb0(n l:Int):List InsD:=[xI 5 n,⟨11,0,5,0,l,0⟩]
def zdp(n:Int)(l:List Int):List InsD:=xI 0 n::l.map (kx 0)
def zY(L:LayD)(r:RefD):Int:=if r.h= -1 then L.ml.getD r.f.toNat 0 else if r.h= -2 then L.sl.getD r.f.toNat 0 else(L.fl.getD r.h.toNat HeadD.z).ws.getD r.f.toNat 0
def kw(L:LayD)(r:Int)(f:RefD):List InsD:=if f.h= -3 then[⟨18,r,0,0,0,0⟩]else[jB r (zY L f)]
def zcB(L:LayD)(r:Int)(x:PushD):List InsD:=if x.op=1 then[xI r x.n]else if x.op=2 then kw L r x.r else if x.op=13 then[⟨4,r,0,0,0,0⟩]else[qu r (r+1) x.op]
def zgU(L:LayD)(s:Int × List InsD)(x:PushD):Int × List InsD:=(s.1-yk x.op+1,s.2++zcB L (s.1-yk x.op) x)
def xK(L:LayD)(es:List PushD)(i:Nat):Int × List InsD:=(es.take i).foldl (zgU L) (0,[])
def qV(L:LayD)(es:List PushD):List InsD:=(es.foldl (zgU L) (0,[])).2
def qW(p:PPlan)(L:LayD)(f:RefD):List InsD:=kH 0 6 (yI (p.width f []))++[kx 0 (zY L f)]
def zeK(v:Value)(w:World)(e:Ending)(w':World):Prop:=∃o,e=.returned v/\w'=w.alloc o
theorem MkrAt.c7{M:MkrD}{a w:World}(h:MkrAt M a)(c:Cov a w):w.cell? ⟨M.mb,7,none⟩=some (.pointer (some ⟨M.pa,0,none⟩)):=c.2 _ _ _ h.box.c7
theorem zjM{x y:InsD}(b:x.wf)(c:y.wf):∀z∈[x,y],z.wf:=by
 intro z a;simp only[zoD,zoA,or_false]at a;rcases a with rfl|rfl
 ·exact b
 ·exact c
theorem xq{x:InsD}(b:x.wf):∀z∈[x],z.wf:=by
 intro z a;simp only[zoD,zoA,or_false]at a;subst a;exact b
theorem wf0:yt 0:=by decide
theorem wfN{r n:Int}(hr:yt r)(a:kM n):(xI r n).wf:=⟨(by decide:yt 1),hr,wf0,wf0,wf0,a⟩
theorem wfB{r s k:Int}(hr:yt r)(hs:yt s)(a:yt k):(qu r s k).wf:=⟨(by decide:yt 3),hr,hs,a,wf0,(by decide:kM 0)⟩
theorem wfG{r n:Int}(hr:yt r)(a:kM n):(jB r n).wf:=⟨(by decide:yt 7),hr,wf0,wf0,wf0,a⟩
theorem wfS{r n:Int}(hr:yt r)(a:kM n):(kx r n).wf:=⟨(by decide:yt 8),hr,wf0,wf0,wf0,a⟩
theorem zat(r n:Int)(w:World):Calls Tryz.prog 43 #[.int .i64 r,.int .u64 n] w (zeK (xI r n).v w):=by
 go_enter Tryz.func43,Tryz.ntmps43
 go_wp2;exact bodyPost_ret (v:=(xI r n).v) (by simp[results,Tryz.results43,go_sem]) rfl ⟨_,rfl,rfl⟩
theorem zd2(r s k:Int)(w:World):Calls Tryz.prog 113 #[.int .i64 r,.int .i64 s,.int .i64 k] w (zeK (qu r s k).v w):=by
 go_enter Tryz.func113,Tryz.ntmps113
 go_wp2;exact bodyPost_ret (v:=(qu r s k).v) (by simp[results,Tryz.results113,go_sem]) rfl ⟨_,rfl,rfl⟩
theorem zmY(r n:Int)(w:World)(a:IntKind.u64.wrap n=n):Calls Tryz.prog 82 #[.int .i64 r,.int .i64 n] w (zeK (jB r n).v w):=by
 go_enter Tryz.func82,Tryz.ntmps82
 go_wp2;exact bodyPost_ret (v:=(jB r n).v) (by simp[results,Tryz.results82,go_sem]) rfl ⟨_,rfl,rfl⟩
theorem znv(r n:Int)(w:World)(a:IntKind.u64.wrap n=n):Calls Tryz.prog 71 #[.int .i64 r,.int .i64 n] w (zeK (kx r n).v w):=by
 go_enter Tryz.func71,Tryz.ntmps71
 go_wp2;exact bodyPost_ret (v:=(kx r n).v) (by simp[results,Tryz.results71,go_sem]) rfl ⟨_,rfl,rfl⟩
theorem zmp(l:Int)(w:World):Calls Tryz.prog 78 #[.int .i64 l] w (zeK (xB l).v w):=by
 go_enter Tryz.func78,Tryz.ntmps78
 go_wp2;exact bodyPost_ret (v:=(xB l).v) (by simp[results,Tryz.results78,go_sem]) rfl ⟨_,rfl,rfl⟩
theorem zeL{a:World}{B:Nat}{cs:List InsD}{ms:List Int}{w:World}{M:MkrD}(f:MkrAt M a)(h:St a B M.pa cs ms w)(r op n:Int)(hr:yt r)(g:yt op)(j:kM n)(c:cs.length+2<=100000):Calls Tryz.prog 75 #[M.v,.int .i64 r,.int .i64 op,.int .u64 n] w (Em a B M.pa w (.tuple #[]) (cs++kH r op n) ms):=by
 have c7:=f.c7 h.cov;have q:=zog _ _ c7;have i:=hid (xy h (kH r op n) _ rfl 2 rfl (zjM (wfN (by decide) j) (wfB hr (by decide) g)) (by decide) c 126)
 dsimp only[kH,List.flatMap_cons,List.flatMap_nil,yL,List.cons_append,List.nil_append]at i;have l:=hid (zat 5 n);have k:=hid (zd2 r 5 op);have B0:=hid (zof w.heap.size w);have o:=hid (fun w' (c:Cov a w')=>f.c7 c)
 clear f h c hr g j;dsimp only[MkrD.v];go_enter Tryz.func75,Tryz.ntmps75
 go_wp2_with fail
 go_region_held3 (fun w'=>w'.cell? ⟨M.mb,7,none⟩=some (.pointer (some ⟨M.pa,0,none⟩))) (first|exact m|exact za c7 (ze B0.out).drew|exact za c7 (ze (ze B0.out)).drew|exact za c7 (ze (ze (ze B0.out))).drew|go_keep) (first
  |(go_at_call 43;refine(l.out _).mono ?_;rintro e d ⟨t,rfl,rfl⟩)
  |(go_at_call 113;refine(k.out _).mono ?_;rintro e d ⟨s,rfl,rfl⟩)
  |(go_at_call 42;refine(i.out _ _ (by simp) (by exact(ze (ze B0.out)))).mono ?_;rintro e d ⟨rfl,b⟩;have m:=o.out d b.1.cov))
 all_goals
  have b:=hid b;go_wp2;exact bodyPost_ret (v:=.tuple #[]) (by simp[results,Tryz.results75,go_sem]) rfl ⟨rfl,b.out⟩
theorem znw{b:World}{B:Nat}{cs:List InsD}{ms:List Int}{w:World}{M:MkrD}(f:MkrAt M b)(h:St b B M.pa cs ms w)(n l:Int)(j:kM n)(a:yt l)(d:cs.length+2<=100000):Calls Tryz.prog 76 #[M.v,.int .u64 n,.int .i64 l] w (Em b B M.pa w (.tuple #[]) (cs++zb0 n l) ms):=by
 have c7:=f.c7 h.cov;have q:=zog _ _ c7;have i:=hid (xy h (zb0 n l) _ rfl 2 rfl (zjM (wfN (by decide) j) ⟨(by decide:yt 11),wf0,(by decide:yt 5),wf0,a,(by decide:kM 0)⟩) (by decide) d 126)
 dsimp only[zb0,List.flatMap_cons,List.flatMap_nil,yL,List.cons_append,List.nil_append]at i;have k:=hid (zat 5 n);have B0:=hid (zof w.heap.size w);have o:=hid (fun w' (d:Cov b w')=>f.c7 d)
 clear f h d j a;dsimp only[MkrD.v];go_enter Tryz.func76,Tryz.ntmps76
 go_wp2_with fail
 go_region_held3 (fun w'=>w'.cell? ⟨M.mb,7,none⟩=some (.pointer (some ⟨M.pa,0,none⟩))) (first|exact m|exact za c7 (ze B0.out).drew|exact za c7 (ze (ze B0.out)).drew|go_keep) (first
  |(go_at_call 43;refine(k.out _).mono ?_;rintro e g ⟨r,rfl,rfl⟩)
  |(go_at_call 42;refine(i.out _ _ (by simp) (by exact(ze B0.out))).mono ?_;rintro e g ⟨rfl,c⟩;have m:=o.out g c.1.cov))
 all_goals
  have c:=hid c;go_wp2;exact bodyPost_ret (v:=.tuple #[]) (by simp[results,Tryz.results76,go_sem]) rfl ⟨rfl,c.out⟩
theorem zbe{z:Int}(h:0<=z/\z<1000):kM z/\IntKind.u64.wrap z=z:=by
 refine⟨?_,xF _ h.1 (by omega)⟩
 show(Lit.int .u64 z).wf=true;simp[Lit.wf,IntKind.min,IntKind.max,IntKind.bits,IntKind.signed];omega
theorem zhU(n:Int)(zs:List Int)(cs:List InsD){i:Nat}(h:i<zs.length):(cs++xI 0 n::(zs.take i).map (kx 0))++[kx 0 (zs.getD i 0)]=cs++xI 0 n::(zs.take (i+1)).map (kx 0):=by
 have e:zs.take (i+1)=zs.take i++[zs[i]]:=by rw[zoI,zoh h];rfl
 rw[e,zoi,zoh h,List.map_append,List.append_assoc];rfl
theorem zjC(n:Int)(zs:List Int)(cs:List InsD):cs++xI 0 n::(zs.take zs.length).map (kx 0)=cs++zdp n zs:=by rw[List.take_length];rfl
theorem zjD(n:Int)(zs:List Int)(cs:List InsD)(i:Nat):(cs++xI 0 n::(zs.take i).map (kx 0)).length<=cs.length+1+i:=by
 simp only[zor,List.length_cons,zoE,List.length_take];omega
theorem zml{o:World}{B:Nat}{cs:List InsD}{ms:List Int}{w:World}{M:MkrD}(x:MkrAt M o)(h:St o B M.pa cs ms w)(n:Int)(H:kM n){a:Option Addr}{m c:Nat}{zs:List Int}(G:Has .i64 o a m zs)(hr:∀z∈zs,0<=z/\z<1000)(t:cs.length+1+m<=100000):Calls Tryz.prog 40 #[M.v,.int .u64 n,.slice a m c] w (Em o B M.pa w (.tuple #[]) (cs++zdp n zs) ms):=by
 have c7:=x.c7 h.cov;have C:=zog _ _ c7;have j:=hid (xy h [xI 0 n] #[.int .i64 1,.int .i64 0,.int .i64 0,.int .i64 0,.int .i64 0,.int .u64 n] rfl 1 rfl (xq (wfN wf0 H)) (by decide) (by omega) 126)
 have q:=hid (zat 0 n);have B0:=hid (zof w.heap.size w);have D:=hid (fun w' (t:Cov o w')=>x.c7 t)
 have y:=hid G;have O:=hid hr;have HC:=hid t;have N:m<=100000:=by omega
 clear x h t H G hr;dsimp only[MkrD.v];go_enter Tryz.func40,Tryz.ntmps40
 go_wp2_with fail
 go_region_held3 (fun w'=>w'.cell? ⟨M.mb,7,none⟩=some (.pointer (some ⟨M.pa,0,none⟩))) (first|exact s|exact za c7 (ze B0.out).drew|exact za c7 (ze (ze B0.out)).drew|go_keep) (first
  |(go_at_call 43;refine(q.out _).mono ?_;rintro e r ⟨L,rfl,rfl⟩)
  |(go_at_call 42;refine(j.out _ _ (by simp) (by exact ze B0.out)).mono ?_;rintro e r ⟨rfl,b⟩;have s:=D.out r b.1.cov))
 have b:=hid b;clear j q B0 c7 C s;go_wp2;go_loopw [18,7] (fun k _ wr=>∃i:Nat,i<=m/\k=.int .i64 i/\Hid (St o B M.pa (cs++xI 0 n::(zs.take i).map (kx 0)) ms wr/\Below B w wr)) (fun k _ _=>m-(intOf k).toNat)
 case atStart=>exact⟨0,zon _,rfl,b.out⟩
 case round=>
  obtain⟨i,hi,rfl,J⟩:=hrel;by_cases u:i<m
  ·have E:(i:Int)<(m:Int):=by omega
   have c7:=D.out wr J.out.1.cov;have C:=zog _ _ c7;obtain⟨g,off,Q,R,d⟩:=(y.out.cov J.out.1.cov).some (by omega)
   subst Q;have A:zs.length=m:=y.out.1;have P:=d i u;have f:kM (zs.getD i 0)/\IntKind.u64.wrap (zs.getD i 0)=zs.getD i 0:=by
    rw[zoi,zoh (by omega),zoC]
    exact zbe (O.out _ (List.getElem_mem (l:=zs) (n:=i) (by omega)))
   have j:=hid (xy J.out.1 [kx 0 (zs.getD i 0)] #[.int .i64 8,.int .i64 0,.int .i64 0,.int .i64 0,.int .i64 0,.int .u64 (zs.getD i 0)] rfl 1 rfl (xq (wfS wf0 f.1)) (by decide) (by have:=zjD n zs cs i;have:=HC.out;omega) 126)
   rw[zhU n zs cs (by omega)]at j
   have q:=hid (fun w'=>znv 0 (zs.getD i 0) w' f.2)
   have B0:=hid (zof wr.heap.size wr);have K:=hid J.out.2;clear f d A J b;generalize zs.getD i 0=z at*;go_wp2_with fail
   go_region_held3 (fun w'=>w'.cell? ⟨M.mb,7,none⟩=some (.pointer (some ⟨M.pa,0,none⟩))) (first|exact s|exact za c7 (ze B0.out).drew|exact za c7 (ze (ze B0.out)).drew|go_keep) (first
    |(go_at_call 71;refine(q.out _).mono ?_;rintro e r ⟨L,rfl,rfl⟩)
    |(go_at_call 42;refine(j.out _ _ (by simp) (by exact ze B0.out)).mono ?_;rintro e r ⟨rfl,b⟩;have s:=D.out r b.1.cov))
   have b:=hid b;clear j q B0 c7 C s P;go_wp2;go_roundw
   case rel=>exact⟨i+1,by omega,by go_num,b.out.1,K.out.trans b.out.2⟩
   case measure=>simp[intOf];omega
  ·have E:¬(i:Int)<(m:Int):=by omega
   obtain rfl:i=m:=by omega
   have F:=hid (J.out);have I:Hid (zs.length=i):=y.out.1;clear J b;go_wp2;refine bodyPost_ret (v:=.tuple #[]) (by simp[results,Tryz.results40,go_sem]) rfl ⟨rfl,?_,F.out.2⟩
   rw[<-zjC,I.out];exact F.out.1
def zbh(L:LayD)(r:RefD):Prop:=
 (r.h= -1/\∃k:Nat,r.f=k/\k<L.ml.length)\/(r.h= -2/\∃k:Nat,r.f=k/\k<L.sl.length)\/∃h k:Nat,r.h=h/\r.f=k/\h<L.fl.length/\k<(L.fl.getD h HeadD.z).ws.length
def TellQ(v:Value)(w:World)(e:Ending)(w':World):Prop:=e=.returned v/\Below w.heap.size w w'
theorem TellQ.of{v:Value}{w w':World}(b:Below w.heap.size w w'):TellQ v w (.returned v) w':=⟨rfl,b⟩
structure LBx (M : MkrD) (w : World) : Prop where
 c8 : w.cell? ⟨M.mb, 8, none⟩ = some (.slice M.L.fs.a M.L.fs.n M.L.fs.c)
 c10 : w.cell? ⟨M.mb, 10, none⟩ = some (.slice M.L.me.a M.L.me.n M.L.me.c)
 c13 : w.cell? ⟨M.mb, 13, none⟩ = some (.slice M.L.sa.a M.L.sa.n M.L.sa.c)
 l : M.mb < w.heap.size
theorem MkrAt.lbx{M:MkrD}{a w:World}(h:MkrAt M a)(c:Cov a w):LBx M w:=⟨c.2 _ _ _ h.box.c8,c.2 _ _ _ h.box.c10,c.2 _ _ _ h.box.c13,zog _ _ (c.2 _ _ _ h.box.c13)⟩
theorem zmq{F w:World}{M:MkrD}(A:MkrAt M F)(y:Cov F w)(r:RefD)(hr:zbh M.L r):Calls Tryz.prog 112 #[.pointer (some ⟨M.mb,8,none⟩),.agg #[.int .i64 r.h,.int .i64 r.f]] w (TellQ (.int .i64 (zY M.L r)) w):=by
 obtain⟨c8,c10,c13,S⟩:=A.lbx y;have d:=A.lay.cov y;clear A y;have t:=hid (fun o=>ze (o:=o) (zof w.heap.size w))
 obtain⟨C,u⟩:=r;rcases hr with⟨b,k,h2,l⟩|⟨b,k,h2,l⟩|⟨h,k,b,h2,R,l⟩
 ·have b:C= -1:=b;have h2:u=(k:Int):=h2;subst b h2;have e:zY M.L ⟨-1,(k:Int)⟩=M.L.ml.getD k 0:=by simp[zY]
  rw[e];have s:=d.me.1;obtain⟨g,off,c,N,a⟩:=d.me.some (by omega)
  have G:=a k (by omega)
  have q:(k:Int)<(M.L.me.n:Int):=by omega
  rw[c]at c10;have H:=hid c;clear d a e c s l;generalize M.L.ml.getD k 0=z at*;go_enter Tryz.func112,Tryz.ntmps112
  go_wp2_with fail
  go_region
  all_goals
   go_wp2;exact bodyPost_ret (v:=.int .i64 z) (by simp[results,Tryz.results112,go_sem]) rfl (TellQ.of (t.out _).drew)
 ·have b:C= -2:=b;have h2:u=(k:Int):=h2;subst b h2;have e:zY M.L ⟨-2,(k:Int)⟩=M.L.sl.getD k 0:=by simp[zY]
  rw[e];have s:=d.sa.1;obtain⟨g,off,c,N,a⟩:=d.sa.some (by omega)
  have G:=a k (by omega)
  have q:(k:Int)<(M.L.sa.n:Int):=by omega
  rw[c]at c13;have H:=hid c;clear d a e c s l;generalize M.L.sl.getD k 0=z at*;go_enter Tryz.func112,Tryz.ntmps112
  go_wp2_with fail
  go_region
  all_goals
   go_wp2;exact bodyPost_ret (v:=.int .i64 z) (by simp[results,Tryz.results112,go_sem]) rfl (TellQ.of (t.out _).drew)
 ·have b:C=(h:Int):=b;have h2:u=(k:Int):=h2;subst b h2;have n1:¬(h:Int)= -1:=by omega
  have n2:¬(h:Int)= -2:=by omega
  have e:zY M.L ⟨(h:Int),(k:Int)⟩=(M.L.fl.getD h HeadD.z).ws.getD k 0:=by
   simp only[zY,if_neg n1,if_neg n2,zov]
  rw[e];have s:=d.fs.1;obtain⟨g,off,x,c,I,m⟩:=zV d.fs (i:=h) (by omega)
  have D:M.L.fl.getD h HeadD.z=x:=by rw[zoi,I];rfl
  rw[D]at l ⊢;rw[Nat.mul_one]at m;have E:=m.1.1;have P:=zog _ _ E;have B:=m.2.1;obtain⟨T,J,j,Q,a⟩:=m.2.some (by omega)
  have G:=a k (by omega)
  have q:(k:Int)<(x.w.n:Int):=by omega
  have O:(h:Int)<(M.L.fs.n:Int):=by omega
  rw[c]at c8;rw[j]at E;have H:=hid c;have K:=hid j;clear d a e c j s l R B D I m;generalize x.ws.getD k 0=z at*;go_enter Tryz.func112,Tryz.ntmps112
  go_wp2_with fail
  go_region
  all_goals
   go_wp2;exact bodyPost_ret (v:=.int .i64 z) (by simp[results,Tryz.results112,go_sem]) rfl (TellQ.of (t.out _).drew)
theorem St.box{c:World}{B pa:Nat}{cs:List InsD}{ms:List Int}{w:World}(h:St c B pa cs ms w)(b:Array Value)(T:TypeId):∃a,St a B pa cs ms (w.alloc (.cells b T))/\BC c a/\∀(i:Nat) v,b[i]?=some v->a.cell? ⟨w.heap.size,i,none⟩=some v:=by
 obtain⟨a,d,c3,hf⟩:=h.wide (ze (o:=.cells b T) (zof _ _));refine⟨a,d,c3,fun i v hi=>?_⟩
 rw[zj ((hf _ (zos _)).trans (zK _ _ _))];exact hi
theorem zfP:zcN HeadD.lie:=fun h c=>⟨h.1.cov c,h.2.cov c⟩
theorem zeM:zcN StateD.lie:=fun h c=>⟨h.1.cov c,h.2.1.cov c,h.2.2.1.cov c,h.2.2.2.1.cov c,h.2.2.2.2.1.cov c,h.2.2.2.2.2.cov CaseD.covs c⟩
theorem zhV:zcN ActD.lie:=fun h c=>⟨h.1.cov c,h.2.1.cov c,h.2.2.1.cov c,h.2.2.2.cov OpD.covs c⟩
theorem zhW:zcN TabD.lie:=fun h c=>⟨h.1.cov c,h.2.1.cov c,h.2.2.1.cov c,h.2.2.2.1.cov c,h.2.2.2.2.1.cov c,h.2.2.2.2.2.1.cov c,h.2.2.2.2.2.2.1.cov RefD.covs c,h.2.2.2.2.2.2.2.1.cov c,h.2.2.2.2.2.2.2.2.cov c⟩
theorem zfQ:zcN NodeD.lie:=fun h c=>⟨h.1.cov c,h.2.1.cov c,h.2.2.1.cov c,h.2.2.2.1.cov c,h.2.2.2.2.1.cov c,h.2.2.2.2.2.cov PushD.covs c⟩
theorem zbE{d:PlanD}{w w':World}(h:d.lie w)(c:Cov w w'):d.lie w':=⟨h.hs.cov zfP c,h.ms.cov c,h.ss.cov zeM c,h.al.cov zhV c,h.ts.cov zhW c,h.ns.cov zfQ c,h.os.cov c,h.oc⟩
theorem MkrAt.cov{M:MkrD}{w w':World}(h:MkrAt M w)(c:Cov w w'):MkrAt M w':=⟨h.box.cov c,zbE h.pl c,h.lay.cov c,h.st.cov c,h.nd.cov c⟩
theorem zmr{u:World}{B:Nat}{cs:List InsD}{ms:List Int}{w:World}{M:MkrD}(j:MkrAt M u)(h:St u B M.pa cs ms w)(r:Int)(hr:yt r)(f:RefD)(hf:f.h= -3\/zbh M.L f/\0<=zY M.L f/\zY M.L f<1000)(l:cs.length+1<=100000):Calls Tryz.prog 74 #[M.v,.int .i64 r,.agg #[.int .i64 f.h,.int .i64 f.f]] w (Em u B M.pa w (.tuple #[]) (cs++kw M.L r f) ms):=by
 obtain⟨s,h2,c3,k⟩:=h.box #[.int .i64 f.h,.int .i64 f.f] 57;have o:=hid c3;obtain⟨g,hW2⟩:∃g,g=w.alloc (.cells #[.int .i64 f.h,.int .i64 f.f] 57):=⟨_,rfl⟩;obtain⟨fb,hfb⟩:∃b,b=w.heap.size:=⟨_,rfl⟩;rw[<-hW2]at h2;have C:Below w.heap.size w g:=by rw[hW2];exact ze (zof _ _)
 have H0:Hid (∀w',Cov s w'->w'.cell? ⟨fb,0,none⟩=some (.int .i64 f.h)):=fun w' c=>c.2 _ _ _ (by rw[hfb];exact k 0 _ rfl)
 have t:Hid (∀w',Cov s w'->w'.cell? ⟨fb,1,none⟩=some (.int .i64 f.f)):=fun w' c=>c.2 _ _ _ (by rw[hfb];exact k 1 _ rfl)
 have f0:=H0.out _ h2.cov;have f1:=t.out _ h2.cov;have fl:=zog _ _ f0;have A:=hid (C.mono h.lo);clear h k C;have j:=j.cov c3.cov;have c7:=j.c7 h2.cov;have I:=zog _ _ c7;have O:=hid (fun w' (l:Cov s w')=>j.c7 l)
 have B0:=hid (zof g.heap.size g);have E:=hid hW2;have F:=hid hfb;clear c3;by_cases i:f.h= -3
 ·have q:=hid (qU h2 [⟨18,r,0,0,0,0⟩] #[.int .i64 18,.int .i64 r,.int .i64 0,.int .i64 0,.int .i64 0,.int .u64 0] rfl 1 rfl (xq ⟨(by decide:yt 18),hr,wf0,wf0,wf0,(by decide:kM 0)⟩) (by decide) l 126)
  have e:kw M.L r f=[⟨18,r,0,0,0,0⟩]:=by unfold kw;rw[if_pos i]
  rw[e];have Q:=hid I;rw[i]at f0;have H:=hid i;clear j h2 l hf e hfb hW2 i hr H0 t;dsimp only[MkrD.v];go_enter Tryz.func74,Tryz.ntmps74
  go_upto_region 1 with fail
  rw[<-E.out,<-F.out];go_wp2_with fail
  refine(q.out _ _ (by simp) B0.out).mono ?_
  rintro e n ⟨rfl,a⟩;have a:=hid a;clear q;go_wp2;exact bodyPost_ret (v:=.tuple #[]) (by simp[results,Tryz.results74,go_sem]) rfl ⟨rfl,a.out.1.less o.out,A.out.trans a.out.2⟩
 ·obtain⟨y,hs⟩:=hf.resolve_left i;have e:kw M.L r f=[jB r (zY M.L f)]:=by unfold kw;rw[if_neg i]
  rw[e];have x:=zbe hs;have q:=hid (qU h2 [jB r (zY M.L f)] #[.int .i64 7,.int .i64 r,.int .i64 0,.int .i64 0,.int .i64 0,.int .u64 (zY M.L f)] rfl 1 rfl (xq (wfG hr x.1)) (by decide) l 126)
  have G:=hid (fun w'=>zmY r (zY M.L f) w' x.2)
  have P:=hid (fun w' (b:Below g.heap.size g w')=>(zmq j (zas h2.cov b) f y).mono fun e m (D:TellQ _ w' e m)=>(⟨D.1,zh b D.2⟩:e=.returned (.int .i64 (zY M.L f))/\Below g.heap.size g m))
  have H:(f.h== -3)=false:=by simpa using i
  clear j h2 l hf e hfb hW2 i hr x hs y;generalize zY M.L f=z at*;dsimp only[MkrD.v];go_enter Tryz.func74,Tryz.ntmps74
  go_upto_region 1 with fail
  rw[<-E.out,<-F.out];go_wp2_with fail
  go_region_held3 (fun w'=>w'.cell? ⟨M.mb,7,none⟩=some (.pointer (some ⟨M.pa,0,none⟩))/\w'.cell? ⟨fb,0,none⟩=some (.int .i64 f.h)/\w'.cell? ⟨fb,1,none⟩=some (.int .i64 f.f)) (first|exact⟨N,J,K⟩|exact⟨za c7 d,za f0 d,za f1 d⟩|exact⟨za c7 (ze d),za f0 (ze d),za f1 (ze d)⟩|exact⟨za c7 (ze (ze d)),za f0 (ze (ze d)),za f1 (ze (ze d))⟩|go_keep) (first
   |(go_at_call 112;refine(P.out _ B0.out.drew).mono ?_;rintro e S ⟨rfl,d⟩)
   |(go_at_call 82;refine(G.out _).mono ?_;rintro e n ⟨R,rfl,rfl⟩)
   |(go_at_call 42;refine(q.out _ _ (by simp) (ze d)).mono ?_;rintro e n ⟨rfl,a⟩;have N:=O.out n a.1.cov;have J:=H0.out n a.1.cov;have K:=t.out n a.1.cov))
  all_goals
   have a:=hid a;go_wp2;exact bodyPost_ret (v:=.tuple #[]) (by simp[results,Tryz.results74,go_sem]) rfl ⟨rfl,a.out.1.less o.out,A.out.trans a.out.2⟩
end Go.Proofs.YtdajaaondlekfaaGreat
