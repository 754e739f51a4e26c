import Derived.Test.YtbmcgbmegcpgnaaGreatVQPure
import Derived.Test.YtbmcgbmegcpgnaaGreatG1
import Derived.Deep.RegionLaw
import Derived.Deep.RegionHeld3
set_option maxHeartbeats 1000000
set_option maxRecDepth 20000
set_option linter.unusedSimpArgs false
namespace Go.Proofs.YtbmcgbmegcpgnaaGreat
open Go.RowKit
def mask(F:Nat->Prop)(D:∀i,Decidable (F i))(w:World):World:={w with heap:=w.heap.mapIdx fun i o=>@ite _ (F i) (D i) (Obj.cells #[] 0) o}
theorem yb(F:Nat->Prop)(w:World):(mask F (fun _=>Classical.propDecidable _) w).heap.size=w.heap.size:=by simp[mask]
open Classical in
theorem zg4(F:Nat->Prop)(w:World)(k:Nat):(mask F (fun _=>Classical.propDecidable _) w).heap[k]?=w.heap[k]?.map fun o=>if F k then Obj.cells #[] 0 else o:=by
 simp[mask,Array.getElem?_mapIdx]
theorem yA{F:Nat->Prop}{w:World}{k:Nat}(h:¬F k):(mask F (fun _=>Classical.propDecidable _) w).heap[k]?=w.heap[k]?:=by
 rw[zg4];simp[h]
theorem kZ{F:Nat->Prop}{w:World}{k:Nat}(h:F k)(a:k<w.heap.size):(mask F (fun _=>Classical.propDecidable _) w).heap[k]?=some (Obj.cells #[] 0):=by
 rw[zg4,zoT a];simp[h]
def Cov(w w':World):Prop:=w.heap.size<=w'.heap.size/\∀g o v,w.cell? ⟨g,o,none⟩=some v->w'.cell? ⟨g,o,none⟩=some v
theorem zeS(F:Nat->Prop)(w:World):Cov (mask F (fun _=>Classical.propDecidable _) w) w:=by
 refine⟨Nat.le_of_eq (yb F w),fun g o v h=>?_⟩
 by_cases hF:F g
 ·have a:g<w.heap.size:=by have:=zog _ _ h;rwa[yb]at this
  simp only[World.cell?,kZ hF a]at h;simp at h
 ·simp only[World.cell?,yA hF]at h;exact h
theorem zh9{F:Nat->Prop}{w:World}{g o:Nat}{v:Value}(h:w.cell? ⟨g,o,none⟩=some v)(hF:¬F g):(mask F (fun _=>Classical.propDecidable _) w).cell? ⟨g,o,none⟩=some v:=by
 simp only[World.cell?,yA hF];exact h
theorem yT{F F':Nat->Prop}{w w':World}(g:w'.os=w.os)(c:w'.tape=w.tape)(b:w'.output=w.output)(hs:w.heap.size<=w'.heap.size)(hF:∀k,F k->F' k)(d:∀k,k<w.heap.size->¬F k->¬F' k/\w'.heap[k]?=w.heap[k]?):Below (mask F (fun _=>Classical.propDecidable _) w).heap.size (mask F (fun _=>Classical.propDecidable _) w) (mask F' (fun _=>Classical.propDecidable _) w'):=by
 refine⟨g,c,b,by rw[yb,yb];exact hs,fun k a=>?_⟩
 rw[yb]at a;by_cases h:F k
 ·rw[kZ h a,kZ (hF k h) (zom a hs)]
 ·obtain⟨f,e⟩:=d k a h;rw[yA h,yA f,e]
theorem qe{F:Nat->Prop}{w w':World}(hb:Below w.heap.size w w'):Below (mask F (fun _=>Classical.propDecidable _) w).heap.size (mask F (fun _=>Classical.propDecidable _) w) (mask F (fun _=>Classical.propDecidable _) w'):=
 yT hb.os hb.tape hb.output hb.size (fun _ h=>h) fun k a h=>⟨h,hb.block k a⟩
theorem CI.cov{w w':World}{g o:Nat}{n:Int}(h:CI w g o n)(c:Cov w w'):CI w' g o n:=⟨c.2 _ _ _ h.1,h.2⟩
theorem CU.cov{w w':World}{g o:Nat}{n:Int}(h:CU w g o n)(c:Cov w w'):CU w' g o n:=⟨c.2 _ _ _ h.1,h.2⟩
theorem CS.cov{w w':World}{g o:Nat}{s:QSl}(h:CS w g o s)(c:Cov w w'):CS w' g o s:=⟨c.2 _ _ _ h.1,h.2⟩
theorem Has.cov{k:IntKind}{w w':World}{a:Option Addr}{len:Nat}{zs:List Int}(h:Has k w a len zs)(c:Cov w w'):Has k w' a len zs:=by
 refine⟨h.1,h.2.1,?_⟩;rcases h.2.2 with h|⟨b,off,rfl,d,e⟩
 ·exact .inl h
 ·exact .inr ⟨b,off,rfl,zom d c.1,fun i hi=>c.2 _ _ _ (e i hi)⟩
def zcN{α :Type}(P: α->World->Nat->Nat->Prop):Prop:=∀{d: α} {w w':World} {g o:Nat},P d w g o->Cov w w'->P d w' g o
theorem QRow.cov{α :Type}{k:Nat}{P: α->World->Nat->Nat->Prop}{w w':World}{s:QSl}{S:List α}(h:QRow k P w s S)(f:zcN P)(c:Cov w w'):QRow k P w' s S:=
 ⟨h.1,fun i d a=>by obtain⟨g,off,e,b⟩:=h.2 i d a;exact⟨g,off,e,f b c⟩⟩
theorem RefD.covs:zcN RefD.lie:=fun h c=>⟨h.1.cov c,h.2.cov c⟩
theorem PushD.covs:zcN PushD.lie:=fun h c=>⟨h.1.cov c,h.2.1.cov c,h.2.2.1.cov c,h.2.2.2.cov c⟩
theorem CaseD.covs:zcN CaseD.lie:=fun h c=>⟨h.1.cov c,h.2.1.cov c,h.2.2.cov c⟩
theorem OpD.covs:zcN OpD.lie:=fun h c=>⟨h.1.cov c,h.2.1.cov c,h.2.2.1.cov c,h.2.2.2.1.cov c,h.2.2.2.2.1.cov c,h.2.2.2.2.2.cov PushD.covs c⟩
structure Kd (α : Type) where
 k : Nat
 cells : α -> List Value
 lie : α -> World -> Nat -> Nat -> Prop
 inn : α -> World -> Prop
 pos : 0 < k
 len : ∀ x, (cells x).length = k
 lay : ∀ {x : α} {w : World} {g o : Nat}, (∀ j u, (cells x)[j]? = some u -> w.cell? ⟨g, o + j, none⟩ = some u) -> inn x w -> lie x w g o
 cell : ∀ {x : α} {w : World} {g o : Nat}, lie x w g o -> ∀ j u, (cells x)[j]? = some u -> w.cell? ⟨g, o + j, none⟩ = some u
 out : ∀ {x : α} {w : World} {g o : Nat}, lie x w g o -> inn x w
 cov : ∀ {x : α} {w w' : World}, inn x w -> Cov w w' -> inn x w'
 step : ∀ {x : α} {w w' : World}, inn x w -> Below w.heap.size w w' -> inn x w'
 one : ∀ x, ∀ u ∈ cells x, u.oneCell' = true
namespace Kd
variable {α : Type} (K : Kd α)
theorem flat_len(S:List α):(S.flatMap K.cells).length=S.length*K.k:=by
 induction S with
 |nil=>simp
 |cons s S ih=>rw[zvw,List.length_append,ih,K.len,zvv,Nat.add_mul,Nat.one_mul,Nat.add_comm]
theorem flat_at{S:List α}{i r:Nat}{s: α}{u:Value}(h:S[i]?=some s)(a:(K.cells s)[r]?=some u):(S.flatMap K.cells)[i*K.k+r]?=some u:=by
 have b:r<K.k:=by have:=(zok.1 a).1;rwa[K.len]at this
 induction S generalizing i with
 |nil=>simp at h
 |cons x S ih=>
  cases i with
  |zero=>
   simp only[List.getElem?_cons_zero,zoo]at h;subst h;rw[zvw,Nat.zero_mul,zoK,zoL (by rw[K.len];exact b),a]
  |succ i=>
   simp only[List.getElem?_cons_succ]at h;rw[zvw,zoO (by rw[K.len,Nat.add_mul];omega),K.len,show(i+1)*K.k+r-K.k=i*K.k+r by rw[Nat.add_mul];omega]
   exact ih h
theorem flat_of{S:List α}{j:Nat}{u:Value}(h:(S.flatMap K.cells)[j]?=some u):∃i r s,S[i]?=some s/\(K.cells s)[r]?=some u/\j=i*K.k+r:=by
 induction S generalizing j with
 |nil=>simp at h
 |cons x S ih=>
  rw[zvw]at h;by_cases c:j<K.k
  ·rw[zoL (by rw[K.len];exact c)]at h
   exact⟨0,j,x,rfl,h,by omega⟩
  ·rw[zoO (by rw[K.len];omega),K.len]at h
   obtain⟨i,r,s,b,a,d⟩:=ih h;exact⟨i+1,r,s,b,a,by rw[Nat.add_mul];omega⟩
theorem flat_one(S:List α):∀u∈S.flatMap K.cells,u.oneCell'=true:=by
 intro u a;obtain⟨s,_,hs⟩:=List.mem_flatMap.1 a;exact K.one s u hs
theorem row{w:World}{base n c:Nat}{T:TypeId}{a:Option Addr}{S:List α}(h:w.ownsRow base T K.k (.slice a n c) n (S.flatMap K.cells))(hi:∀s∈S,K.inn s w):QRow K.k K.lie w ⟨a,n,c⟩ S:=by
 have d:S.length=n:=by
  have:=h.1;rw[K.flat_len]at this;exact Nat.eq_of_mul_eq_mul_right K.pos this
 refine⟨d,fun i s hs=>?_⟩
 have l:i<n:=by have:=(zok.1 hs).1;omega
 rcases h.2 with⟨_,e⟩|⟨g,cap,f,e,_⟩
 ·omega
 ·simp only[zox]at e;obtain⟨rfl,_,rfl⟩:=e;refine⟨g,0,rfl,K.lay (fun j u b=>?_) (hi s (zol hs))⟩
  have m:j<K.k:=by have:=(zok.1 b).1;rwa[K.len]at this
  rw[zoK,h.cellAt (i*K.k+j) ?_,K.flat_at hs b];have:(i+1)*K.k<=n*K.k:=Nat.mul_le_mul_right _ (by omega)
  rw[Nat.add_mul]at this;omega
theorem own_nil0{w:World}{base n c e k:Nat}{a:Option Addr}{b:List Value}(h:w.ownsRow base e k (.slice a n c) n b):a=none->n=0/\c=0:=by
 intro ha;rcases h.2 with⟨e,_⟩|⟨g,cap,d,e,_⟩
 ·simp only[zox]at e;exact⟨e.2.1,e.2.2⟩
 ·simp only[zox]at e;rw[ha]at e;cases e.1
theorem src{w:World}{s:QSl}{S:List α}(h:QRow K.k K.lie w s S){g off:Nat}(l:s.a=some ⟨g,off,none⟩):∀j u,(S.flatMap K.cells)[j]?=some u->w.cell? ((⟨g,off,none⟩:Addr).add j)=some u:=by
 intro j u c;obtain⟨i,r,x,m,f,rfl⟩:=K.flat_of c;obtain⟨n,b,e,d⟩:=h.2 i x m;rw[l]at e;simp only[zoo,Addr.mk.injEq,and_true]at e;obtain⟨rfl,rfl⟩:=e;rw[Addr.add_lit,<-Nat.add_assoc];exact K.cell d r u f
theorem inns{w:World}{s:QSl}{S:List α}(h:QRow K.k K.lie w s S):∀x∈S,K.inn x w:=by
 intro x b;obtain⟨i,hi,rfl⟩:=zoR b;obtain⟨g,off,_,a⟩:=h.2 i _ (zoh hi);exact K.out a
end Kd
@[reducible] def wfI(n:Int):Prop:=(Lit.int .i64 n).wf=true
@[reducible] def wfU(n:Int):Prop:=(Lit.int .u64 n).wf=true
def kRef:Kd RefD where
 k:=2
 cells x:=[.int .i64 x.h,.int .i64 x.f]
 lie:=RefD.lie
 inn x _:=wfI x.h/\wfI x.f
 pos:=by decide
 len _:=rfl
 lay h i:=⟨⟨h 0 _ rfl,i.1⟩,⟨h 1 _ rfl,i.2⟩⟩
 cell h j u hu:=by
  match j,hu with
  |0,hu=>cases hu;exact h.1.1
  |1,hu=>cases hu;exact h.2.1
  |j+2,hu=>simp at hu
 out h:=⟨h.1.2,h.2.2⟩
 cov i _:=i
 step i _:=i
 one x u hu:=by simp at hu;rcases hu with rfl|rfl<;>rfl
def kPush:Kd PushD where
 k:=4
 cells x:=[.int .i64 x.op,.int .i64 x.r.h,.int .i64 x.r.f,.int .u64 x.n]
 lie:=PushD.lie
 inn x _:=wfI x.op/\wfI x.r.h/\wfI x.r.f/\wfU x.n
 pos:=by decide
 len _:=rfl
 lay h i:=⟨⟨h 0 _ rfl,i.1⟩,⟨h 1 _ rfl,i.2.1⟩,⟨h 2 _ rfl,i.2.2.1⟩,⟨h 3 _ rfl,i.2.2.2⟩⟩
 cell h j u hu:=by
  match j,hu with
  |0,hu=>cases hu;exact h.1.1
  |1,hu=>cases hu;exact h.2.1.1
  |2,hu=>cases hu;exact h.2.2.1.1
  |3,hu=>cases hu;exact h.2.2.2.1
  |j+4,hu=>simp at hu
 out h:=⟨h.1.2,h.2.1.2,h.2.2.1.2,h.2.2.2.2⟩
 cov i _:=i
 step i _:=i
 one x u hu:=by simp at hu;rcases hu with rfl|rfl|rfl|rfl<;>rfl
def kCase:Kd CaseD where
 k:=3
 cells x:=[.int .u64 x.value,.int .u64 x.mask,.int .i64 x.to]
 lie:=CaseD.lie
 inn x _:=wfU x.value/\wfU x.mask/\wfI x.to
 pos:=by decide
 len _:=rfl
 lay h i:=⟨⟨h 0 _ rfl,i.1⟩,⟨h 1 _ rfl,i.2.1⟩,⟨h 2 _ rfl,i.2.2⟩⟩
 cell h j u hu:=by
  match j,hu with
  |0,hu=>cases hu;exact h.1.1
  |1,hu=>cases hu;exact h.2.1.1
  |2,hu=>cases hu;exact h.2.2.1
  |j+3,hu=>simp at hu
 out h:=⟨h.1.2,h.2.1.2,h.2.2.2⟩
 cov i _:=i
 step i _:=i
 one x u hu:=by simp at hu;rcases hu with rfl|rfl|rfl<;>rfl
def kHead:Kd HeadD where
 k:=1
 cells x:=[.slice x.w.a x.w.n x.w.c]
 lie:=HeadD.lie
 inn x w:=x.w.nil0/\Has .i64 w x.w.a x.w.n x.ws
 pos:=by decide
 len _:=rfl
 lay h i:=⟨⟨h 0 _ rfl,i.1⟩,i.2⟩
 cell h j u hu:=by
  match j,hu with
  |0,hu=>cases hu;exact h.1.1
  |j+1,hu=>simp at hu
 out h:=⟨h.1.2,h.2⟩
 cov i c:=⟨i.1,i.2.cov c⟩
 step i b:=⟨i.1,i.2.step b⟩
 one x u hu:=by simp at hu;subst hu;rfl
def kState:Kd StateD where
 k:=5
 cells x:=[.int .i64 x.head,.int .i64 x.r.h,.int .i64 x.r.f,.slice x.cases.a x.cases.n x.cases.c,.int .i64 x.els]
 lie:=StateD.lie
 inn x w:=(wfI x.head/\wfI x.r.h/\wfI x.r.f/\x.cases.nil0/\wfI x.els)/\QRow 3 CaseD.lie w x.cases x.cs
 pos:=by decide
 len _:=rfl
 lay h i:=⟨⟨h 0 _ rfl,i.1.1⟩,⟨h 1 _ rfl,i.1.2.1⟩,⟨h 2 _ rfl,i.1.2.2.1⟩,⟨h 3 _ rfl,i.1.2.2.2.1⟩,⟨h 4 _ rfl,i.1.2.2.2.2⟩,i.2⟩
 cell h j u hu:=by
  match j,hu with
  |0,hu=>cases hu;exact h.1.1
  |1,hu=>cases hu;exact h.2.1.1
  |2,hu=>cases hu;exact h.2.2.1.1
  |3,hu=>cases hu;exact h.2.2.2.1.1
  |4,hu=>cases hu;exact h.2.2.2.2.1.1
  |j+5,hu=>simp at hu
 out h:=⟨⟨h.1.2,h.2.1.2,h.2.2.1.2,h.2.2.2.1.2,h.2.2.2.2.1.2⟩,h.2.2.2.2.2⟩
 cov i c:=⟨i.1,i.2.cov CaseD.covs c⟩
 step i b:=⟨i.1,i.2.step CaseD.keeps b⟩
 one x u hu:=by simp at hu;rcases hu with rfl|rfl|rfl|rfl|rfl<;>rfl
def kOp:Kd OpD where
 k:=5
 cells x:=[.int .i64 x.kind,.int .i64 x.r.h,.int .i64 x.r.f,.int .i64 x.head,.slice x.e.a x.e.n x.e.c]
 lie:=OpD.lie
 inn x w:=(wfI x.kind/\wfI x.r.h/\wfI x.r.f/\wfI x.head/\x.e.nil0)/\QRow 4 PushD.lie w x.e x.es
 pos:=by decide
 len _:=rfl
 lay h i:=⟨⟨h 0 _ rfl,i.1.1⟩,⟨h 1 _ rfl,i.1.2.1⟩,⟨h 2 _ rfl,i.1.2.2.1⟩,⟨h 3 _ rfl,i.1.2.2.2.1⟩,⟨h 4 _ rfl,i.1.2.2.2.2⟩,i.2⟩
 cell h j u hu:=by
  match j,hu with
  |0,hu=>cases hu;exact h.1.1
  |1,hu=>cases hu;exact h.2.1.1
  |2,hu=>cases hu;exact h.2.2.1.1
  |3,hu=>cases hu;exact h.2.2.2.1.1
  |4,hu=>cases hu;exact h.2.2.2.2.1.1
  |j+5,hu=>simp at hu
 out h:=⟨⟨h.1.2,h.2.1.2,h.2.2.1.2,h.2.2.2.1.2,h.2.2.2.2.1.2⟩,h.2.2.2.2.2⟩
 cov i c:=⟨i.1,i.2.cov PushD.covs c⟩
 step i b:=⟨i.1,i.2.step PushD.keeps b⟩
 one x u hu:=by simp at hu;rcases hu with rfl|rfl|rfl|rfl|rfl<;>rfl
def kAct:Kd ActD where
 k:=2
 cells x:=[.slice x.w.a x.w.n x.w.c,.slice x.ops.a x.ops.n x.ops.c]
 lie:=ActD.lie
 inn x w:=(x.w.nil0/\x.ops.nil0)/\Has .i64 w x.w.a x.w.n x.ws/\QRow 5 OpD.lie w x.ops x.os
 pos:=by decide
 len _:=rfl
 lay h i:=⟨⟨h 0 _ rfl,i.1.1⟩,⟨h 1 _ rfl,i.1.2⟩,i.2⟩
 cell h j u hu:=by
  match j,hu with
  |0,hu=>cases hu;exact h.1.1
  |1,hu=>cases hu;exact h.2.1.1
  |j+2,hu=>simp at hu
 out h:=⟨⟨h.1.2,h.2.1.2⟩,h.2.2⟩
 cov i c:=⟨i.1,i.2.1.cov c,i.2.2.cov OpD.covs c⟩
 step i b:=⟨i.1,i.2.1.step b,i.2.2.step OpD.keeps b⟩
 one x u hu:=by simp at hu;rcases hu with rfl|rfl<;>rfl
def kTab:Kd TabD where
 k:=6
 cells x:=[.int .i64 x.kind,.slice x.keys.a x.keys.n x.keys.c,.slice x.acts.a x.acts.n x.acts.c,.int .i64 x.cap,.int .i64 x.dflt,.slice x.args.a x.args.n x.args.c]
 lie:=TabD.lie
 inn x w:=(wfI x.kind/\x.keys.nil0/\x.acts.nil0/\wfI x.cap/\wfI x.dflt/\x.args.nil0)/\QRow 2 RefD.lie w x.keys x.ks/\Has .i64 w x.acts.a x.acts.n x.al/\Has .u64 w x.args.a x.args.n x.zs
 pos:=by decide
 len _:=rfl
 lay h i:=⟨⟨h 0 _ rfl,i.1.1⟩,⟨h 1 _ rfl,i.1.2.1⟩,⟨h 2 _ rfl,i.1.2.2.1⟩,⟨h 3 _ rfl,i.1.2.2.2.1⟩,⟨h 4 _ rfl,i.1.2.2.2.2.1⟩,⟨h 5 _ rfl,i.1.2.2.2.2.2⟩,i.2⟩
 cell h j u hu:=by
  match j,hu with
  |0,hu=>cases hu;exact h.1.1
  |1,hu=>cases hu;exact h.2.1.1
  |2,hu=>cases hu;exact h.2.2.1.1
  |3,hu=>cases hu;exact h.2.2.2.1.1
  |4,hu=>cases hu;exact h.2.2.2.2.1.1
  |5,hu=>cases hu;exact h.2.2.2.2.2.1.1
  |j+6,hu=>simp at hu
 out h:=⟨⟨h.1.2,h.2.1.2,h.2.2.1.2,h.2.2.2.1.2,h.2.2.2.2.1.2,h.2.2.2.2.2.1.2⟩,h.2.2.2.2.2.2⟩
 cov i c:=⟨i.1,i.2.1.cov RefD.covs c,i.2.2.1.cov c,i.2.2.2.cov c⟩
 step i b:=⟨i.1,i.2.1.step RefD.keeps b,i.2.2.1.step b,i.2.2.2.step b⟩
 one x u hu:=by simp at hu;rcases hu with rfl|rfl|rfl|rfl|rfl|rfl<;>rfl
def kNode:Kd NodeD where
 k:=5
 cells x:=[.int .i64 x.kind,.int .i64 x.n,.slice x.e.a x.e.n x.e.c,.int .i64 x.yes,.int .i64 x.no]
 lie:=NodeD.lie
 inn x w:=(wfI x.kind/\wfI x.n/\x.e.nil0/\wfI x.yes/\wfI x.no)/\QRow 4 PushD.lie w x.e x.es
 pos:=by decide
 len _:=rfl
 lay h i:=⟨⟨h 0 _ rfl,i.1.1⟩,⟨h 1 _ rfl,i.1.2.1⟩,⟨h 2 _ rfl,i.1.2.2.1⟩,⟨h 3 _ rfl,i.1.2.2.2.1⟩,⟨h 4 _ rfl,i.1.2.2.2.2⟩,i.2⟩
 cell h j u hu:=by
  match j,hu with
  |0,hu=>cases hu;exact h.1.1
  |1,hu=>cases hu;exact h.2.1.1
  |2,hu=>cases hu;exact h.2.2.1.1
  |3,hu=>cases hu;exact h.2.2.2.1.1
  |4,hu=>cases hu;exact h.2.2.2.2.1.1
  |j+5,hu=>simp at hu
 out h:=⟨⟨h.1.2,h.2.1.2,h.2.2.1.2,h.2.2.2.1.2,h.2.2.2.2.1.2⟩,h.2.2.2.2.2⟩
 cov i c:=⟨i.1,i.2.cov PushD.covs c⟩
 step i b:=⟨i.1,i.2.step PushD.keeps b⟩
 one x u hu:=by simp at hu;rcases hu with rfl|rfl|rfl|rfl|rfl<;>rfl
theorem jt{F F':Nat->Prop}(w:World)(h:∀b,F' b->F b):Cov (mask F (fun _=>Classical.propDecidable _) w) (mask F' (fun _=>Classical.propDecidable _) w):=by
 refine⟨by rw[yb,yb];exact zos _,fun g o v a=>?_⟩
 by_cases hF:F g
 ·have c:g<w.heap.size:=by have:=zog _ _ a;rwa[yb]at this
  simp only[World.cell?,kZ hF c]at a;simp at a
 ·exact zh9 ((zeS F w).2 _ _ _ a) (fun d=>hF (h g d))
end Go.Proofs.YtbmcgbmegcpgnaaGreat
namespace Go.Proofs.YtbmcgbmegcpgnaaGreat
open Go.RowKit
theorem xL{w:World}{T s:TypeId}{z:Value}{k bs:Nat}(I:TypeId)(O:Tryz.prog.underlying s=some (.slice T))(y:(Tryz.prog.info? T).map (fun i=>(i.zero,i.size,i.bytes))=some (some z,k,bs))(F:z.cells.size=k)(Y:0<k)
 {base n cap:Nat} {K:Option Addr} {D news:List Value} {ad:Addr} {m c:Nat} (a:w.ownsRow base T k (.slice K n cap) n D) (N:news.length=m*k) (M:∀j u,news[j]?=some u->w.cell? (ad.add j)=some u) (U:∀u∈news,u.oneCell'=true) (hm:0<m)
 (x:n+m<=maxLen) (H:(n+m)*bs<=140737488355328) (l:base<=w.heap.size):
 ∃g q w',(Builtin.append_ #[s,s] I #[.slice K n cap,.slice (some ad) m c]).run Tryz.prog w=.ok (.slice (some ⟨g,0,none⟩) (n+m) q) w'/\w'.ownsRow base T k (.slice (some ⟨g,0,none⟩) (n+m) q) (n+m) (D++news)/\w.grownBy w' (Value.slice K n cap).ownBlock/\(K=some ⟨g,0,none⟩\/w.heap.size<=g):=by
 obtain⟨J,hi,t,f,C⟩:=info_parts y;have form:∀{v':Value} {w':World} {B:Nat} {Z:List Value},w'.ownsRow B T k v' (n+m) Z->∃g c,v'=.slice (some ⟨g,0,none⟩) (n+m) c:=by
  intro v' w' B Z h;rcases h.2 with⟨_,e⟩|⟨g,c,Q,e,_⟩
  ·omega
  ·exact⟨g,c,e⟩
 rcases a.2 with⟨X,e2⟩|⟨g,W,Q,e,hb,hh,a3,a1,a0,a2⟩
 ·simp only[zox]at X;obtain⟨rfl,_,rfl⟩:=X;subst e2;have S:D=[]:=zoG (by have:=a.1;omega)
  subst S;obtain⟨v',w',b,o,E,-⟩:=run_append_own (P:=Tryz.prog) w w.heap.size s I T J z k bs O hi t f C F Y (.slice none 0 0) 0 [] (zoH _ _ _ _) ad m c news N M U x H (zos _);obtain⟨L,R,rfl⟩:=form o;exact⟨L,R,w',b,⟨o.1,by
   rcases o.2 with h|⟨g2,c2,G,hv,V,r⟩
   ·exact .inl h
   ·exact .inr ⟨g2,c2,G,hv,zoz l V,r⟩⟩,E,.inr (o.lt L rfl).1⟩
 ·simp only[zox,true_and]at e;obtain⟨rfl,rfl⟩:=e;by_cases A:n+m<=cap
  ·obtain⟨w',b,o,E⟩:=run_append_fits (P:=Tryz.prog) w base s I T J k O hi f g n cap D a ad m c news N M U A;exact⟨g,cap,w',b,o,E,.inl rfl⟩
  ·obtain⟨v',w',b,o,E,-⟩:=run_append_own (P:=Tryz.prog) w base s I T J z k bs O hi t f C F Y (.slice (some ⟨g,0,none⟩) n cap) n D a ad m c news N M U x H l;obtain⟨L,R,rfl⟩:=form o;have d:=run_append_grow (P:=Tryz.prog) w s I T J z O hi t ⟨g,0,none⟩ n cap D (by rw[f];exact a.1) (fun j v hj=>a.cells rfl j v hj) ad m c news (by rw[f];exact N) M (by omega) (by unfold maxLen at x;omega) (by rw[C];exact growslice_fits (by omega) (by omega))
   rw[b]at d;simp only[Result.ok.injEq,zox,zoo,Addr.mk.injEq,and_true]at d;exact⟨L,R,w',b,o,E,.inr (Nat.le_of_eq d.1.1.symm)⟩
theorem znG{ops:Array Oper}{o:Oper}{a:Act}{w:World}{K:Act->World->Prop}{Q:Exit->Act->World->Prop}{E:Prop}{T y:TypeId}{z:Value}{k bs:Nat}
 (N:Tryz.prog.underlying y=some (.slice T)) (e:(Tryz.prog.info? T).map (fun i=>(i.zero,i.size,i.bytes))=some (some z,k,bs)) (t:z.cells.size=k) (D:0<k) (A:bs<=1000) (r:o.guard=none) (s x:Operand)
 (L:o.op=.call {callee:=.builtin .append,args:= #[s,x],argTypes:= #[y,y]}) (base n cap c:Nat) (q:Option Addr) (B news:List Value) (ad:Addr)
 (hs:a.eval s=.slice q n cap) (F:a.eval x=.slice (some ad) 1 c) (f:w.ownsRow base T k (.slice q n cap) n B) (O:news.length=k) (I:∀j u,news[j]?=some u->w.cell? (ad.add j)=some u) (H:∀u∈news,u.oneCell'=true) (G:n<=100000) (d:base<=w.heap.size)
 (h:∀g b w',w'.ownsRow base T k (.slice (some ⟨g,0,none⟩) (n+1) b) (n+1) (B++news)->w.grownBy w' (Value.slice q n cap).ownBlock->(q=some ⟨g,0,none⟩\/w.heap.size<=g)->K (a.put o.dst (.slice (some ⟨g,0,none⟩) (n+1) b)) w'):
 if Region.wanted o (yielded ops a.tmps)=true then Oper.wp Tryz.prog o a w K Q else E:=by
 have hw:Region.wanted o (yielded ops a.tmps)=true:=by simp[Region.wanted,r]
 rw[if_pos hw];obtain⟨g,b,w',l,M,C,J⟩:=xL (c:=c) o.type N e t D f (m:=1) (by omega) I H (by omega) (by unfold maxLen;omega) (by
  have:(n+1)*bs<=100001*1000:=Nat.mul_le_mul (by omega) A
  omega) d
 unfold Oper.wp execOp;simp only[L,resolve,invoke,builtin,Sem.run_bind,Sem.run_pure,Result.andThen_ok,List.map_toArray,List.map_cons,List.map_nil,hs,F,l];exact h g b w' M C J
theorem zau{α :Type}(K:Kd α){w:World}{T f:TypeId}{z:Value}{bs:Nat}(G:TypeId)(L:Tryz.prog.underlying f=some (.slice T))(d:(Tryz.prog.info? T).map (fun i=>(i.zero,i.size,i.bytes))=some (some z,K.k,bs))(t:z.cells.size=K.k)(D:bs<=1000)
 {s:QSl} {S:List α} (q:QRow K.k K.lie w s S) (U:s.nil0) (l:s.n<=100000):
 ∃a c w',(Builtin.append_ #[f,f] G #[.slice none 0 0,.slice s.a s.n s.c]).run Tryz.prog w=.ok (.slice a s.n c) w'/\w'.ownsRow w.heap.size T K.k (.slice a s.n c) s.n (S.flatMap K.cells)/\Below w.heap.size w w':=by
 obtain⟨H,hi,C,B,E⟩:=info_parts d;have o:(S.flatMap K.cells).length=s.n*K.k:=by rw[K.flat_len,q.1]
 obtain⟨M,A,sc⟩:=s;cases M with
 |none=>
  obtain⟨I,r⟩:=U rfl;dsimp only at I r;subst I;subst r;refine⟨none,0,w,run_append_owned_none (P:=Tryz.prog) w w.heap.size f G T H K.k L hi (.slice none 0 0) 0 [] (zoH _ _ _ _),?_,zof _ _⟩;have:S=[]:=zoG q.1;subst this;exact zoH _ _ _ _
 |some ad=>
  have y:S≠[]->∃g off,ad=⟨g,off,none⟩:=by
   intro b;obtain⟨x,V,rfl⟩:=List.exists_cons_of_ne_nil b;obtain⟨g,off,e,_⟩:=q.2 0 x rfl;exact⟨g,off,zoq e⟩
  have h:∀j u,(S.flatMap K.cells)[j]?=some u->w.cell? (ad.add j)=some u:=by
   by_cases b:S=[]
   ·subst b;intro j u Q;simp at Q
   ·obtain⟨g,off,rfl⟩:=y b;exact K.src q rfl
  have J:A*bs<=100000*1000:=Nat.mul_le_mul l D;obtain⟨v',w',m,F,N,-⟩:=run_append_own (P:=Tryz.prog) w w.heap.size f G T H z K.k bs L hi C B E t K.pos (.slice none 0 0) 0 [] (zoH _ _ _ _) ad A sc (S.flatMap K.cells) o h (K.flat_one S) (by unfold maxLen;dsimp only at l;omega) (by rw[zoK];omega) (zos _)
  rw[zoK,List.nil_append]at F;obtain⟨a,c,e⟩:∃a c,v'=.slice a A c:=by
   rcases F.2 with⟨e,r⟩|⟨g,c,R,e,_⟩
   ·exact⟨none,0,by rw[e,r]⟩
   ·exact⟨_,c,e⟩
  subst e;exact⟨a,c,w',m,F,(zof _ _).grown N (zos _) (by intro j O;simp[Value.ownBlock]at O)⟩
theorem yg{w w':World}{ops:Array Oper}{rest:List Oper}{o:Oper}{a:Act}{Q:Exit->Act->World->Prop}{c:TypeId}(d:o.guard=none)(s x:Operand)
 (i:o.op=.call {callee:=.builtin .append,args:= #[s,x],argTypes:= #[c,c]}) {f e v':Value} (hs:a.eval s=f) (j:a.eval x=e) (b:(Builtin.append_ #[c,c] o.type #[f,e]).run Tryz.prog w=.ok v' w')
 (h:wpList Tryz.prog ops Q rest (a.put o.dst v') w'):wpList Tryz.prog ops Q (o::rest) a w:=
 wpList_plain d fun _ g=>by
  unfold Oper.wp execOp;simp only[i,resolve,invoke,builtin,Sem.run_bind,Sem.run_pure,Result.andThen_ok,List.map_toArray,List.map_cons,List.map_nil,hs,j,b];exact g _ _ h
theorem zac{w w':World}{ops:Array Oper}{o:Oper}{a:Act}{K:Act->World->Prop}{Q:Exit->Act->World->Prop}{E:Prop}{c:TypeId}(d:o.guard=none)(s x:Operand)
 (g:o.op=.call {callee:=.builtin .append,args:= #[s,x],argTypes:= #[c,c]}) {f e v':Value} (hs:a.eval s=f) (i:a.eval x=e) (b:(Builtin.append_ #[c,c] o.type #[f,e]).run Tryz.prog w=.ok v' w')
 (h:K (a.put o.dst v') w'):if Region.wanted o (yielded ops a.tmps)=true then Oper.wp Tryz.prog o a w K Q else E:=by
 have hw:Region.wanted o (yielded ops a.tmps)=true:=by simp[Region.wanted,d]
 rw[if_pos hw];unfold Oper.wp execOp;simp only[g,resolve,invoke,builtin,Sem.run_bind,Sem.run_pure,Result.andThen_ok,List.map_toArray,List.map_cons,List.map_nil,hs,i,b];exact h
def kInt:Kd Int where
 k:=1
 cells x:=[.int .i64 x]
 lie x w g o:=CI w g o x
 inn x _:=wfI x
 pos:=by decide
 len _:=rfl
 lay h i:=⟨h 0 _ rfl,i⟩
 cell h j u hu:=by
  match j,hu with
  |0,hu=>cases hu;exact h.1
  |j+1,hu=>simp at hu
 out h:=h.2
 cov i _:=i
 step i _:=i
 one x u hu:=by simp at hu;subst hu;rfl
def kNum:Kd Int where
 k:=1
 cells x:=[.int .u64 x]
 lie x w g o:=CU w g o x
 inn x _:=wfU x
 pos:=by decide
 len _:=rfl
 lay h i:=⟨h 0 _ rfl,i⟩
 cell h j u hu:=by
  match j,hu with
  |0,hu=>cases hu;exact h.1
  |j+1,hu=>simp at hu
 out h:=h.2
 cov i _:=i
 step i _:=i
 one x u hu:=by simp at hu;subst hu;rfl
theorem zj1{w:World}{s:QSl}{zs:List Int}(h:Has .i64 w s.a s.n zs):QRow kInt.k kInt.lie w s zs:=by
 refine⟨h.1,fun i x c=>?_⟩
 have hi:=(zok.1 c).1;obtain⟨b,off,e,_,d⟩:=h.some (by rw[<-h.1];omega)
 have:=d i (by rw[<-h.1];exact hi)
 rw[zoi,c,zoC]at this;refine⟨b,off,e,?_,h.2.1 x (zol c)⟩;rw[show kInt.k=1 from rfl,Nat.mul_one]
 exact this
theorem zad{w:World}{s:QSl}{zs:List Int}(h:QRow kInt.k kInt.lie w s zs):Has .i64 w s.a s.n zs:=by
 refine⟨h.1,fun x l=>?_,?_⟩
 ·exact kInt.inns h x l
 ·cases zs with
  |nil=>exact .inl rfl
  |cons z zs=>
   obtain⟨g,off,e,f⟩:=h.2 0 z rfl;refine .inr ⟨g,off,e,zog w _ f.1,fun i hi=>?_⟩
   have b:i<(z::zs).length:=by rw[h.1];exact hi
   obtain⟨m,d,c,j⟩:=h.2 i _ (zoh b);rw[e]at c;simp only[zoo,Addr.mk.injEq,and_true]at c;obtain⟨rfl,rfl⟩:=c;have:=j.1;rw[show kInt.k=1 from rfl,Nat.mul_one]at this
   rw[this,zoi,zoh b,zoC]
theorem zj2{w:World}{s:QSl}{zs:List Int}(h:Has .u64 w s.a s.n zs):QRow kNum.k kNum.lie w s zs:=by
 refine⟨h.1,fun i x c=>?_⟩
 have hi:=(zok.1 c).1;obtain⟨b,off,e,_,d⟩:=h.some (by rw[<-h.1];omega)
 have:=d i (by rw[<-h.1];exact hi)
 rw[zoi,c,zoC]at this;refine⟨b,off,e,?_,h.2.1 x (zol c)⟩;rw[show kNum.k=1 from rfl,Nat.mul_one]
 exact this
theorem zj3{w:World}{s:QSl}{zs:List Int}(h:QRow kNum.k kNum.lie w s zs):Has .u64 w s.a s.n zs:=by
 refine⟨h.1,fun x l=>?_,?_⟩
 ·exact kNum.inns h x l
 ·cases zs with
  |nil=>exact .inl rfl
  |cons z zs=>
   obtain⟨g,off,e,f⟩:=h.2 0 z rfl;refine .inr ⟨g,off,e,zog w _ f.1,fun i hi=>?_⟩
   have b:i<(z::zs).length:=by rw[h.1];exact hi
   obtain⟨m,d,c,j⟩:=h.2 i _ (zoh b);rw[e]at c;simp only[zoo,Addr.mk.injEq,and_true]at c;obtain⟨rfl,rfl⟩:=c;have:=j.1;rw[show kNum.k=1 from rfl,Nat.mul_one]at this
   rw[this,zoi,zoh b,zoC]
def CopyDone{α :Type}(K:Kd α)(T:TypeId)(S:List α)(n:Nat)(w:World)(e:Ending)(w':World):Prop:=
 ∃a c,e=.returned (.slice a n c)/\w'.ownsRow w.heap.size T K.k (.slice a n c) n (S.flatMap K.cells)/\Below w.heap.size w w'
abbrev old(w:World):Nat->Prop:=fun b=>b<w.heap.size
theorem yq{α :Type}(K:Kd α){T:TypeId}{w w':World}{n c:Nat}{a:Option Addr}{S:List α}(h:w'.ownsRow w.heap.size T K.k (.slice a n c) n (S.flatMap K.cells))(hi:∀s∈S,K.inn s (mask (old w) (fun _=>Classical.propDecidable _) w')):QRow K.k K.lie (mask (old w) (fun _=>Classical.propDecidable _) w') ⟨a,n,c⟩ S:=by
 refine K.row (base:=w.heap.size) (T:=T) ⟨h.1,?_⟩ hi;rcases h.2 with d|⟨g,cap,b,e,hb,f,r⟩
 ·exact .inl d
 ·exact .inr ⟨g,cap,b,e,hb,(yA (F:=old w) (k:=g) (show¬g<w.heap.size by omega)).trans f,r⟩
theorem Tryz.infoRef:(Tryz.prog.info? 48).map (fun i=>(i.zero,i.size,i.bytes))=some (some (.agg #[.int .i64 0,.int .i64 0]),2,16):=by kernel_rfl
theorem Tryz.infoPush:(Tryz.prog.info? 144).map (fun i=>(i.zero,i.size,i.bytes))=some (some (.agg #[.int .i64 0,.int .i64 0,.int .i64 0,.int .u64 0]),4,32):=by kernel_rfl
theorem Tryz.infoCase:(Tryz.prog.info? 98).map (fun i=>(i.zero,i.size,i.bytes))=some (some (.agg #[.int .u64 0,.int .u64 0,.int .i64 0]),3,24):=by kernel_rfl
theorem Tryz.infoHeader:(Tryz.prog.info? 53).map (fun i=>(i.zero,i.size,i.bytes))=some (some (.agg #[.slice none 0 0]),1,24):=by kernel_rfl
theorem Tryz.infoState:(Tryz.prog.info? 51).map (fun i=>(i.zero,i.size,i.bytes))=some (some (.agg #[.int .i64 0,.int .i64 0,.int .i64 0,.slice none 0 0,.int .i64 0]),5,56):=by kernel_rfl
theorem Tryz.infoOp:(Tryz.prog.info? 59).map (fun i=>(i.zero,i.size,i.bytes))=some (some (.agg #[.int .i64 0,.int .i64 0,.int .i64 0,.int .i64 0,.slice none 0 0]),5,56):=by kernel_rfl
theorem Tryz.infoAction:(Tryz.prog.info? 56).map (fun i=>(i.zero,i.size,i.bytes))=some (some (.agg #[.slice none 0 0,.slice none 0 0]),2,48):=by kernel_rfl
theorem Tryz.infoTable:(Tryz.prog.info? 63).map (fun i=>(i.zero,i.size,i.bytes))=some (some (.agg #[.int .i64 0,.slice none 0 0,.slice none 0 0,.int .i64 0,.int .i64 0,.slice none 0 0]),6,96):=by kernel_rfl
theorem Tryz.infoNode:(Tryz.prog.info? 65).map (fun i=>(i.zero,i.size,i.bytes))=some (some (.agg #[.int .i64 0,.int .i64 0,.slice none 0 0,.int .i64 0,.int .i64 0]),5,56):=by kernel_rfl
theorem Tryz.infoNum:(Tryz.prog.info? 96).map (fun i=>(i.zero,i.size,i.bytes))=some (some (.int .u64 0),1,8):=by kernel_rfl
theorem Tryz.infoInt0:(Tryz.prog.info? 3).map (fun i=>(i.zero,i.size,i.bytes))=some (some (.int .i64 0),1,8):=by kernel_rfl
theorem kI(s:QSl)(S:List Int)(w:World)(h:Has .i64 w s.a s.n S)(e:s.nil0)(f:s.n<=100000):Calls Tryz.prog 16 #[.slice s.a s.n s.c] w (CopyDone kInt 3 S s.n w):=by
 obtain⟨a,c,w',b,d,hb⟩:=zau kInt 23 Tryz.underlying23 Tryz.infoInt0 rfl (by decide) (s:=s) (zj1 h) e f
 have HD:Hid (CopyDone kInt 3 S s.n w (.returned (.slice a s.n c)) w'):=⟨a,c,rfl,d,hb⟩;clear d hb h e;go_enter Tryz.func16,Tryz.ntmps16
 go_wp2_with (at_builtin;refine yg rfl _ _ rfl rfl rfl b ?_)
 go_ret;exact HD.out
theorem zb2(s:QSl)(S:List PushD)(w:World)(h:QRow 4 PushD.lie w s S)(e:s.nil0)(f:s.n<=100000):Calls Tryz.prog 17 #[.slice s.a s.n s.c] w (CopyDone kPush 144 S s.n w):=by
 obtain⟨a,c,w',b,d,hb⟩:=zau kPush 57 Tryz.underlying57 Tryz.infoPush rfl (by decide) (s:=s) h e f
 have HD:Hid (CopyDone kPush 144 S s.n w (.returned (.slice a s.n c)) w'):=⟨a,c,rfl,d,hb⟩;clear d hb h e;go_enter Tryz.func17,Tryz.ntmps17
 go_wp2_with (at_builtin;refine yg rfl _ _ rfl rfl rfl b ?_)
 go_ret;exact HD.out
theorem Kd.keeps{α :Type}(K:Kd α):jw K.lie:=fun h b=>K.lay (fun j u a=>za (K.cell h j u a) b) (K.step (K.out h) b)
theorem Kd.covs{α :Type}(K:Kd α):zcN K.lie:=fun h c=>K.lay (fun j u a=>c.2 _ _ _ (K.cell h j u a)) (K.cov (K.out h) c)
structure Abv (B : Nat) (w w' : World) : Prop where
 os : w'.os = w.os
 tape : w'.tape = w.tape
 output : w'.output = w.output
 size : w'.heap.size = w.heap.size
 block : ∀ k, B <= k -> w'.heap[k]? = w.heap[k]?
abbrev zlJ(w:World)(a:Option Addr):Nat->Prop:=fun b=>b<w.heap.size\/(Value.slice a 0 0).ownBlock=some b
structure EachAt {α β : Type} (K : Kd α) (f : α -> β) (T : TypeId) (S : List α) (n : Nat) (w : World) (a : Option Addr) (c i : Nat) (L : List α) (wr : World) : Prop where
 own : wr.ownsRow w.heap.size T K.k (.slice a n c) n (L.flatMap K.cells)
 len : L.length = n
 done : ∀ (j : Nat) (x : α), j < i -> L[j]? = some x -> K.inn x (mask (zlJ w a) (fun _ => Classical.propDecidable _) wr)
 eqv : L.map f = S.map f
 rest : ∀ j, i <= j -> L[j]? = S[j]?
 bel : Below w.heap.size w wr
theorem ya{w w':World}{base n k:Nat}{T:TypeId}{v:Value}{a:List Value}(h:w.ownsRow base T k v n a)(b:Below w.heap.size w w'):w'.ownsRow base T k v n a:=
 h.kept (row:=none) ⟨b.os,b.tape,b.output,b.size,fun k c _=>b.block k c⟩ (by cases v.ownBlock<;>simp)
structure PlanD.fits (d : PlanD) : Prop where
 hs : d.heads.n <= 100000 /\ ∀ x ∈ d.hs, x.w.n <= 100000
 ms : d.mta.n <= 100000
 ss : d.states.n <= 100000 /\ ∀ x ∈ d.ss, x.cases.n <= 100000
 al : d.acts.n <= 100000 /\ ∀ x ∈ d.al, x.w.n <= 100000 /\ x.ops.n <= 100000 /\ ∀ o ∈ x.os, o.e.n <= 100000
 ts : d.tabs.n <= 100000 /\ ∀ x ∈ d.ts, x.keys.n <= 100000 /\ x.acts.n <= 100000 /\ x.args.n <= 100000
 ns : d.nodes.n <= 100000 /\ ∀ x ∈ d.ns, x.e.n <= 100000
 os : d.out.n <= 100000
def zeV(d:PlanD)(w:World)(e:Ending)(w':World):Prop:=∃a:PlanD,e=.returned a.v/\a.lie w'/\a.nil0/\a.p=d.p/\Below w.heap.size w w'
theorem zif(d:PlanD)(w:World):∃b f e,b=(w.alloc d.box).alloc (.cells #[.slice none 0 0,.slice none 0 0,.slice none 0 0,.slice none 0 0,.slice none 0 0,.slice none 0 0,.slice none 0 0] 29)/\f=w.heap.size/\e=w.heap.size+1/\b.heap.size=w.heap.size+2/\(b.cell? ⟨f,0,none⟩=some (.slice d.heads.a d.heads.n d.heads.c)/\b.cell? ⟨f,1,none⟩=some (.slice d.mta.a d.mta.n d.mta.c)/\b.cell? ⟨f,2,none⟩=some (.slice d.states.a d.states.n d.states.c)/\b.cell? ⟨f,3,none⟩=some (.slice d.acts.a d.acts.n d.acts.c)/\b.cell? ⟨f,4,none⟩=some (.slice d.tabs.a d.tabs.n d.tabs.c)/\b.cell? ⟨f,5,none⟩=some (.slice d.nodes.a d.nodes.n d.nodes.c)/\b.cell? ⟨f,6,none⟩=some (.slice d.out.a d.out.n d.out.c))/\(b.cell? ⟨e,0,none⟩=some (.slice none 0 0)/\b.cell? ⟨e,1,none⟩=some (.slice none 0 0)/\b.cell? ⟨e,2,none⟩=some (.slice none 0 0)/\b.cell? ⟨e,3,none⟩=some (.slice none 0 0)/\b.cell? ⟨e,4,none⟩=some (.slice none 0 0)/\b.cell? ⟨e,5,none⟩=some (.slice none 0 0)/\b.cell? ⟨e,6,none⟩=some (.slice none 0 0))/\∀i,b.frozen? ⟨e,i,none⟩=false:=by
 refine⟨_,_,_,rfl,rfl,rfl,by simp,?_,?_,?_⟩
 ·refine⟨?_,?_,?_,?_,?_,?_,?_⟩<;>exact(zoe _ _ _ (by simp)).trans ((zod _ _ _ _ rfl).trans rfl)
 ·refine⟨?_,?_,?_,?_,?_,?_,?_⟩<;>exact(zod _ _ _ _ (by simp)).trans rfl
 ·intro i;exact zoB _ _ _ _ (by simp)
end Go.Proofs.YtbmcgbmegcpgnaaGreat
