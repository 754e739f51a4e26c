import Derived.Test.YtbmcgbmegcpgnaaGreatG2
import Derived.Test.YtbmcgbmegcpgnaaGreatVQRules2
import Derived.Deep.OwnRows
set_option maxHeartbeats 200000
set_option maxRecDepth 20000
set_option linter.unusedSimpArgs false
namespace Go.Proofs.YtbmcgbmegcpgnaaGreat
open Go.RowKit
theorem zbH{w:World}{cs:List Value}{T:TypeId}:∀j u,cs[j]?=some u->(w.alloc (.cells cs.toArray T)).cell? ((⟨w.heap.size,0,none⟩:Addr).add j)=some u:=by
 intro j u h;rw[Addr.add_lit,zoK,zod _ _ _ _ rfl];simpa using h
structure Turn (wr w5 w7 : World) (po g : Nat) (row : Option Nat) (F : Nat -> Prop) : Prop where
 hb : Below wr.heap.size wr w5
 os : w7.os = w5.os
 tape : w7.tape = w5.tape
 output : w7.output = w5.output
 size : w5.heap.size <= w7.heap.size
 blk : ∀ k, k < w5.heap.size -> k ≠ po -> some k ≠ row -> w7.heap[k]? = w5.heap[k]?
 fpo : F po
 frow : ∀ b, row = some b -> F b
 flt : ∀ k, F k -> k < wr.heap.size
 new : row = some g \/ w5.heap.size <= g
abbrev zae(F:Nat->Prop)(g:Nat):Nat->Prop:=fun b=>F b\/b=g
theorem Turn.mask{wr d b:World}{po g:Nat}{row:Option Nat}{F:Nat->Prop}(h:Turn wr d b po g row F):Below (mask F (fun _=>Classical.propDecidable _) wr).heap.size (mask F (fun _=>Classical.propDecidable _) wr) (mask (zae F g) (fun _=>Classical.propDecidable _) b):=by
 refine yT (h.os.trans h.hb.os) (h.tape.trans h.hb.tape) (h.output.trans h.hb.output) (zoz h.hb.size h.size) (fun _ h=>.inl h) fun k f hF=>?_
 have i:=h.hb.size;refine⟨fun a=>?_,?_⟩
 ·rcases a with a|rfl
  ·exact hF a
  ·rcases h.new with c|c
   ·exact hF (h.frow _ c)
   ·omega
 ·rw[h.blk k (by omega) (fun e=>hF (e▸h.fpo)) (fun e=>hF (h.frow k e.symm)),h.hb.block k f]
theorem Turn.fresh{wr a c W:World}{po g:Nat}{row:Option Nat}{F:Nat->Prop}(h:Turn wr a c po g row F)(n:wr.heap.size<=W.heap.size){α :Type}(K:Kd α){x: α}(hi:K.inn x (Go.Proofs.YtbmcgbmegcpgnaaGreat.mask (old W) (fun _=>Classical.propDecidable _) a)):K.inn x (Go.Proofs.YtbmcgbmegcpgnaaGreat.mask (zae F g) (fun _=>Classical.propDecidable _) c):=by
 have m:Below (Go.Proofs.YtbmcgbmegcpgnaaGreat.mask (old W) (fun _=>Classical.propDecidable _) a).heap.size (Go.Proofs.YtbmcgbmegcpgnaaGreat.mask (old W) (fun _=>Classical.propDecidable _) a) (Go.Proofs.YtbmcgbmegcpgnaaGreat.mask (zae (old W) g) (fun _=>Classical.propDecidable _) c):=by
  refine yT h.os h.tape h.output h.size (fun _ h=>.inl h) fun k l hF=>?_
  have j:¬k<W.heap.size:=hF;have i:=h.flt _ h.fpo;refine⟨fun d=>?_,h.blk k l (by omega) (fun e=>by have:=h.flt _ (h.frow k e.symm);omega)⟩
  rcases d with d|rfl
  ·exact hF d
  ·rcases h.new with f|f
   ·have:=h.flt _ (h.frow _ f);omega
   ·omega
 refine K.cov (K.step hi m) (jt _ fun b hb=>?_)
 rcases hb with hb|hb
 ·exact .inl (by have:=h.flt _ hb;show b<W.heap.size;omega)
 ·exact .inr hb
theorem yi{wr d g:World}{B n o k r po j:Nat}{T f:TypeId}{v v' u:Value}{e b:List Value}(h:wr.ownsRow B T k v n e)(s:wr.ownsRow B f r v' o b)(l:T≠f)(hb:Below wr.heap.size wr d)(q:d.grownBy g v'.ownBlock)(m:po<B):(g.setCell ⟨po,j,none⟩ u).ownsRow B T k v n e:=by
 have i:=ya h hb;have c:=ya s hb;exact ownsRow_setCell_below (i.kept q (zbP i c l)) (a:=⟨po,j,none⟩) m u
structure OutAt (w W2 : World) (po : Nat) (F : Nat -> Prop) (X : PlanD) (wr : World) : Prop where
 c0 : wr.cell? ⟨po, 0, none⟩ = some (.slice X.heads.a X.heads.n X.heads.c)
 c1 : wr.cell? ⟨po, 1, none⟩ = some (.slice X.mta.a X.mta.n X.mta.c)
 c2 : wr.cell? ⟨po, 2, none⟩ = some (.slice X.states.a X.states.n X.states.c)
 c3 : wr.cell? ⟨po, 3, none⟩ = some (.slice X.acts.a X.acts.n X.acts.c)
 c4 : wr.cell? ⟨po, 4, none⟩ = some (.slice X.tabs.a X.tabs.n X.tabs.c)
 c5 : wr.cell? ⟨po, 5, none⟩ = some (.slice X.nodes.a X.nodes.n X.nodes.c)
 c6 : wr.cell? ⟨po, 6, none⟩ = some (.slice X.out.a X.out.n X.out.c)
 fz : ∀ i, wr.frozen? ⟨po, i, none⟩ = false
 ph : w.heap.size + 2 <= po
 pl : po < wr.heap.size
 own0 : wr.ownsRow (po + 1) 53 kHead.k (.slice X.heads.a X.heads.n X.heads.c) X.heads.n (X.hs.flatMap kHead.cells)
 inn0 : ∀ x ∈ X.hs, kHead.inn x (mask F (fun _ => Classical.propDecidable _) wr)
 blk0 : ∀ b, (Value.slice X.heads.a X.heads.n X.heads.c).ownBlock = some b -> F b
 own2 : wr.ownsRow (po + 1) 51 kState.k (.slice X.states.a X.states.n X.states.c) X.states.n (X.ss.flatMap kState.cells)
 inn2 : ∀ x ∈ X.ss, kState.inn x (mask F (fun _ => Classical.propDecidable _) wr)
 blk2 : ∀ b, (Value.slice X.states.a X.states.n X.states.c).ownBlock = some b -> F b
 own3 : wr.ownsRow (po + 1) 56 kAct.k (.slice X.acts.a X.acts.n X.acts.c) X.acts.n (X.al.flatMap kAct.cells)
 inn3 : ∀ x ∈ X.al, kAct.inn x (mask F (fun _ => Classical.propDecidable _) wr)
 blk3 : ∀ b, (Value.slice X.acts.a X.acts.n X.acts.c).ownBlock = some b -> F b
 own4 : wr.ownsRow (po + 1) 63 kTab.k (.slice X.tabs.a X.tabs.n X.tabs.c) X.tabs.n (X.ts.flatMap kTab.cells)
 inn4 : ∀ x ∈ X.ts, kTab.inn x (mask F (fun _ => Classical.propDecidable _) wr)
 blk4 : ∀ b, (Value.slice X.tabs.a X.tabs.n X.tabs.c).ownBlock = some b -> F b
 own5 : wr.ownsRow (po + 1) 65 kNode.k (.slice X.nodes.a X.nodes.n X.nodes.c) X.nodes.n (X.ns.flatMap kNode.cells)
 inn5 : ∀ x ∈ X.ns, kNode.inn x (mask F (fun _ => Classical.propDecidable _) wr)
 blk5 : ∀ b, (Value.slice X.nodes.a X.nodes.n X.nodes.c).ownBlock = some b -> F b
 ms : QRow kInt.k kInt.lie (mask F (fun _ => Classical.propDecidable _) wr) X.mta X.ms
 ms0 : X.mta.nil0
 os : QRow kInt.k kInt.lie (mask F (fun _ => Classical.propDecidable _) wr) X.out X.os
 os0 : X.out.nil0
 oc : X.out.n <= X.out.c
 fpo : F po
 fold : ∀ b, b < w.heap.size + 2 -> F b
 flt : ∀ k, F k -> k < wr.heap.size
 bel : Below (w.heap.size + 2) W2 wr
theorem zbi{w i wr e f:World}{po g:Nat}{F:Nat->Prop}{X:PlanD}{v u:Value}{j:Nat}(h:OutAt w i po F X wr)(hb:Below wr.heap.size wr e)(d:e.grownBy f v.ownBlock)(c:∀b,v.ownBlock=some b->F b)(a:v.ownBlock=some g\/e.heap.size<=g):Turn wr e (f.setCell ⟨po,j,none⟩ u) po g v.ownBlock F:=
 ⟨hb,d.os,d.tape,d.output,by rw[zow];exact d.size,fun k m n l=>(zop _ _ _ _ n).trans (d.block k m l),h.fpo,c,h.flt,a⟩
theorem OutAt.push0{w D wr y r W:World}{po g f:Nat}{F:Nat->Prop}{X:PlanD}{x':HeadD}(h:OutAt w D po F X wr)(hb:Below wr.heap.size wr y)(I:wr.heap.size<=W.heap.size)(A:kHead.inn x' (mask (old W) (fun _=>Classical.propDecidable _) y))
 (E:r.ownsRow (po+1) 53 kHead.k (.slice (some ⟨g,0,none⟩) (X.heads.n+1) f) (X.heads.n+1) (X.hs.flatMap kHead.cells++kHead.cells x')) (l:y.grownBy r (Value.slice X.heads.a X.heads.n X.heads.c).ownBlock) (s:X.heads.a=some ⟨g,0,none⟩\/y.heap.size<=g):
 OutAt w D po (zae F g) {X with heads:=⟨some ⟨g,0,none⟩,X.heads.n+1,f⟩,hs:=X.hs++[x']} (r.setCell ⟨po,0,none⟩ (.slice (some ⟨g,0,none⟩) (X.heads.n+1) f)):=by
 have G:=zbi (g:=g) (u:=.slice (some ⟨g,0,none⟩) (X.heads.n+1) f) (j:=0) (v:=.slice X.heads.a X.heads.n X.heads.c) h hb l h.blk0 (s.elim (fun e=>.inl (by rw[e];rfl)) .inr)
 have m:=G.mask;have q:some po≠(Value.slice X.heads.a X.heads.n X.heads.c).ownBlock:=fun e=>by have:=(h.own0.lt po e.symm).1;omega
 have H:=h.pl;have cell:∀{o:Nat} {x:Value},wr.cell? ⟨po,o,none⟩=some x->r.cell? ⟨po,o,none⟩=some x:=fun i=>l.cell (za i hb) q
 have d:∀{o:Nat} {x:Value},o≠0->wr.cell? ⟨po,o,none⟩=some x->(r.setCell ⟨po,0,none⟩ (.slice (some ⟨g,0,none⟩) (X.heads.n+1) f)).cell? ⟨po,o,none⟩=some x:=fun C i=>(zou _ _ _ _ (fun e=>C (congrArg Addr.off e).symm)).trans (cell i)
 have J:=hb.size;have K:=l.size;have B:=(E.lt g rfl);exact{
  c0:=zot _ _ _ (cell h.c0)
  c1:=d (by decide) h.c1
  c2:=d (by decide) h.c2
  c3:=d (by decide) h.c3
  c4:=d (by decide) h.c4
  c5:=d (by decide) h.c5
  c6:=d (by decide) h.c6
  fz:=fun o=>by rw[World.frozen?_setCell,l.frozen_far ⟨po,o,none⟩ (by show po<_;omega) q,hb.frozen (p:=⟨po,o,none⟩) (by show po<_;omega)];exact h.fz o
  ph:=h.ph
  pl:=by rw[zow];omega
  own0:=by
   have:=ownsRow_setCell_below E (a:=⟨po,0,none⟩) (zoF _) (.slice (some ⟨g,0,none⟩) (X.heads.n+1) f);rw[show(X.hs++[x']).flatMap kHead.cells=X.hs.flatMap kHead.cells++kHead.cells x' by simp]
   exact this
  inn0:=fun x i=>by
   rcases List.mem_append.1 i with i|i
   ·exact kHead.step (h.inn0 x i) m
   ·simp only[zoD,zoA,or_false]at i;rw[i];exact G.fresh I kHead A
  blk0:=fun b hb=>.inr (zoq hb).symm
  own2:=yi h.own2 h.own0 (by decide) hb l (zoF _)
  inn2:=fun x i=>kState.step (h.inn2 x i) m
  blk2:=fun b hb=>.inl (h.blk2 b hb)
  own3:=yi h.own3 h.own0 (by decide) hb l (zoF _)
  inn3:=fun x i=>kAct.step (h.inn3 x i) m
  blk3:=fun b hb=>.inl (h.blk3 b hb)
  own4:=yi h.own4 h.own0 (by decide) hb l (zoF _)
  inn4:=fun x i=>kTab.step (h.inn4 x i) m
  blk4:=fun b hb=>.inl (h.blk4 b hb)
  own5:=yi h.own5 h.own0 (by decide) hb l (zoF _)
  inn5:=fun x i=>kNode.step (h.inn5 x i) m
  blk5:=fun b hb=>.inl (h.blk5 b hb)
  ms:=h.ms.step (Kd.keeps kInt) m
  ms0:=h.ms0
  os:=h.os.step (Kd.keeps kInt) m
  os0:=h.os0
  oc:=h.oc
  fpo:=.inl h.fpo
  fold:=fun b hb=>.inl (h.fold b hb)
  flt:=fun k t=>by
   rw[zow];rcases t with t|rfl
   ·have:=h.flt k t;omega
   ·exact B.2
  bel:=by
   have:=h.ph;refine zoV ?_ (by show w.heap.size+2<=po;omega) _
   refine(h.bel.trans (hb.mono (by omega))).grown l (by omega) fun k t=>?_
   have:=(h.own0.lt k t).1;omega}
theorem OutAt.push2{w D wr y r W:World}{po g f:Nat}{F:Nat->Prop}{X:PlanD}{x':StateD}(h:OutAt w D po F X wr)(hb:Below wr.heap.size wr y)(I:wr.heap.size<=W.heap.size)(A:kState.inn x' (mask (old W) (fun _=>Classical.propDecidable _) y))
 (E:r.ownsRow (po+1) 51 kState.k (.slice (some ⟨g,0,none⟩) (X.states.n+1) f) (X.states.n+1) (X.ss.flatMap kState.cells++kState.cells x')) (l:y.grownBy r (Value.slice X.states.a X.states.n X.states.c).ownBlock) (s:X.states.a=some ⟨g,0,none⟩\/y.heap.size<=g):
 OutAt w D po (zae F g) {X with states:=⟨some ⟨g,0,none⟩,X.states.n+1,f⟩,ss:=X.ss++[x']} (r.setCell ⟨po,2,none⟩ (.slice (some ⟨g,0,none⟩) (X.states.n+1) f)):=by
 have G:=zbi (g:=g) (u:=.slice (some ⟨g,0,none⟩) (X.states.n+1) f) (j:=2) (v:=.slice X.states.a X.states.n X.states.c) h hb l h.blk2 (s.elim (fun e=>.inl (by rw[e];rfl)) .inr)
 have m:=G.mask;have q:some po≠(Value.slice X.states.a X.states.n X.states.c).ownBlock:=fun e=>by have:=(h.own2.lt po e.symm).1;omega
 have H:=h.pl;have cell:∀{o:Nat} {x:Value},wr.cell? ⟨po,o,none⟩=some x->r.cell? ⟨po,o,none⟩=some x:=fun i=>l.cell (za i hb) q
 have d:∀{o:Nat} {x:Value},o≠2->wr.cell? ⟨po,o,none⟩=some x->(r.setCell ⟨po,2,none⟩ (.slice (some ⟨g,0,none⟩) (X.states.n+1) f)).cell? ⟨po,o,none⟩=some x:=fun C i=>(zou _ _ _ _ (fun e=>C (congrArg Addr.off e).symm)).trans (cell i)
 have J:=hb.size;have K:=l.size;have B:=(E.lt g rfl);exact{
  c0:=d (by decide) h.c0
  c1:=d (by decide) h.c1
  c2:=zot _ _ _ (cell h.c2)
  c3:=d (by decide) h.c3
  c4:=d (by decide) h.c4
  c5:=d (by decide) h.c5
  c6:=d (by decide) h.c6
  fz:=fun o=>by rw[World.frozen?_setCell,l.frozen_far ⟨po,o,none⟩ (by show po<_;omega) q,hb.frozen (p:=⟨po,o,none⟩) (by show po<_;omega)];exact h.fz o
  ph:=h.ph
  pl:=by rw[zow];omega
  own0:=yi h.own0 h.own2 (by decide) hb l (zoF _)
  inn0:=fun x i=>kHead.step (h.inn0 x i) m
  blk0:=fun b hb=>.inl (h.blk0 b hb)
  own2:=by
   have:=ownsRow_setCell_below E (a:=⟨po,2,none⟩) (zoF _) (.slice (some ⟨g,0,none⟩) (X.states.n+1) f);rw[show(X.ss++[x']).flatMap kState.cells=X.ss.flatMap kState.cells++kState.cells x' by simp]
   exact this
  inn2:=fun x i=>by
   rcases List.mem_append.1 i with i|i
   ·exact kState.step (h.inn2 x i) m
   ·simp only[zoD,zoA,or_false]at i;rw[i];exact G.fresh I kState A
  blk2:=fun b hb=>.inr (zoq hb).symm
  own3:=yi h.own3 h.own2 (by decide) hb l (zoF _)
  inn3:=fun x i=>kAct.step (h.inn3 x i) m
  blk3:=fun b hb=>.inl (h.blk3 b hb)
  own4:=yi h.own4 h.own2 (by decide) hb l (zoF _)
  inn4:=fun x i=>kTab.step (h.inn4 x i) m
  blk4:=fun b hb=>.inl (h.blk4 b hb)
  own5:=yi h.own5 h.own2 (by decide) hb l (zoF _)
  inn5:=fun x i=>kNode.step (h.inn5 x i) m
  blk5:=fun b hb=>.inl (h.blk5 b hb)
  ms:=h.ms.step (Kd.keeps kInt) m
  ms0:=h.ms0
  os:=h.os.step (Kd.keeps kInt) m
  os0:=h.os0
  oc:=h.oc
  fpo:=.inl h.fpo
  fold:=fun b hb=>.inl (h.fold b hb)
  flt:=fun k t=>by
   rw[zow];rcases t with t|rfl
   ·have:=h.flt k t;omega
   ·exact B.2
  bel:=by
   have:=h.ph;refine zoV ?_ (by show w.heap.size+2<=po;omega) _
   refine(h.bel.trans (hb.mono (by omega))).grown l (by omega) fun k t=>?_
   have:=(h.own2.lt k t).1;omega}
theorem OutAt.push3{w D wr y r W:World}{po g f:Nat}{F:Nat->Prop}{X:PlanD}{x':ActD}(h:OutAt w D po F X wr)(hb:Below wr.heap.size wr y)(I:wr.heap.size<=W.heap.size)(A:kAct.inn x' (mask (old W) (fun _=>Classical.propDecidable _) y))
 (E:r.ownsRow (po+1) 56 kAct.k (.slice (some ⟨g,0,none⟩) (X.acts.n+1) f) (X.acts.n+1) (X.al.flatMap kAct.cells++kAct.cells x')) (l:y.grownBy r (Value.slice X.acts.a X.acts.n X.acts.c).ownBlock) (s:X.acts.a=some ⟨g,0,none⟩\/y.heap.size<=g):
 OutAt w D po (zae F g) {X with acts:=⟨some ⟨g,0,none⟩,X.acts.n+1,f⟩,al:=X.al++[x']} (r.setCell ⟨po,3,none⟩ (.slice (some ⟨g,0,none⟩) (X.acts.n+1) f)):=by
 have G:=zbi (g:=g) (u:=.slice (some ⟨g,0,none⟩) (X.acts.n+1) f) (j:=3) (v:=.slice X.acts.a X.acts.n X.acts.c) h hb l h.blk3 (s.elim (fun e=>.inl (by rw[e];rfl)) .inr)
 have m:=G.mask;have q:some po≠(Value.slice X.acts.a X.acts.n X.acts.c).ownBlock:=fun e=>by have:=(h.own3.lt po e.symm).1;omega
 have H:=h.pl;have cell:∀{o:Nat} {x:Value},wr.cell? ⟨po,o,none⟩=some x->r.cell? ⟨po,o,none⟩=some x:=fun i=>l.cell (za i hb) q
 have d:∀{o:Nat} {x:Value},o≠3->wr.cell? ⟨po,o,none⟩=some x->(r.setCell ⟨po,3,none⟩ (.slice (some ⟨g,0,none⟩) (X.acts.n+1) f)).cell? ⟨po,o,none⟩=some x:=fun C i=>(zou _ _ _ _ (fun e=>C (congrArg Addr.off e).symm)).trans (cell i)
 have J:=hb.size;have K:=l.size;have B:=(E.lt g rfl);exact{
  c0:=d (by decide) h.c0
  c1:=d (by decide) h.c1
  c2:=d (by decide) h.c2
  c3:=zot _ _ _ (cell h.c3)
  c4:=d (by decide) h.c4
  c5:=d (by decide) h.c5
  c6:=d (by decide) h.c6
  fz:=fun o=>by rw[World.frozen?_setCell,l.frozen_far ⟨po,o,none⟩ (by show po<_;omega) q,hb.frozen (p:=⟨po,o,none⟩) (by show po<_;omega)];exact h.fz o
  ph:=h.ph
  pl:=by rw[zow];omega
  own0:=yi h.own0 h.own3 (by decide) hb l (zoF _)
  inn0:=fun x i=>kHead.step (h.inn0 x i) m
  blk0:=fun b hb=>.inl (h.blk0 b hb)
  own2:=yi h.own2 h.own3 (by decide) hb l (zoF _)
  inn2:=fun x i=>kState.step (h.inn2 x i) m
  blk2:=fun b hb=>.inl (h.blk2 b hb)
  own3:=by
   have:=ownsRow_setCell_below E (a:=⟨po,3,none⟩) (zoF _) (.slice (some ⟨g,0,none⟩) (X.acts.n+1) f);rw[show(X.al++[x']).flatMap kAct.cells=X.al.flatMap kAct.cells++kAct.cells x' by simp]
   exact this
  inn3:=fun x i=>by
   rcases List.mem_append.1 i with i|i
   ·exact kAct.step (h.inn3 x i) m
   ·simp only[zoD,zoA,or_false]at i;rw[i];exact G.fresh I kAct A
  blk3:=fun b hb=>.inr (zoq hb).symm
  own4:=yi h.own4 h.own3 (by decide) hb l (zoF _)
  inn4:=fun x i=>kTab.step (h.inn4 x i) m
  blk4:=fun b hb=>.inl (h.blk4 b hb)
  own5:=yi h.own5 h.own3 (by decide) hb l (zoF _)
  inn5:=fun x i=>kNode.step (h.inn5 x i) m
  blk5:=fun b hb=>.inl (h.blk5 b hb)
  ms:=h.ms.step (Kd.keeps kInt) m
  ms0:=h.ms0
  os:=h.os.step (Kd.keeps kInt) m
  os0:=h.os0
  oc:=h.oc
  fpo:=.inl h.fpo
  fold:=fun b hb=>.inl (h.fold b hb)
  flt:=fun k t=>by
   rw[zow];rcases t with t|rfl
   ·have:=h.flt k t;omega
   ·exact B.2
  bel:=by
   have:=h.ph;refine zoV ?_ (by show w.heap.size+2<=po;omega) _
   refine(h.bel.trans (hb.mono (by omega))).grown l (by omega) fun k t=>?_
   have:=(h.own3.lt k t).1;omega}
theorem OutAt.push4{w D wr y r W:World}{po g f:Nat}{F:Nat->Prop}{X:PlanD}{x':TabD}(h:OutAt w D po F X wr)(hb:Below wr.heap.size wr y)(I:wr.heap.size<=W.heap.size)(A:kTab.inn x' (mask (old W) (fun _=>Classical.propDecidable _) y))
 (E:r.ownsRow (po+1) 63 kTab.k (.slice (some ⟨g,0,none⟩) (X.tabs.n+1) f) (X.tabs.n+1) (X.ts.flatMap kTab.cells++kTab.cells x')) (l:y.grownBy r (Value.slice X.tabs.a X.tabs.n X.tabs.c).ownBlock) (s:X.tabs.a=some ⟨g,0,none⟩\/y.heap.size<=g):
 OutAt w D po (zae F g) {X with tabs:=⟨some ⟨g,0,none⟩,X.tabs.n+1,f⟩,ts:=X.ts++[x']} (r.setCell ⟨po,4,none⟩ (.slice (some ⟨g,0,none⟩) (X.tabs.n+1) f)):=by
 have G:=zbi (g:=g) (u:=.slice (some ⟨g,0,none⟩) (X.tabs.n+1) f) (j:=4) (v:=.slice X.tabs.a X.tabs.n X.tabs.c) h hb l h.blk4 (s.elim (fun e=>.inl (by rw[e];rfl)) .inr)
 have m:=G.mask;have q:some po≠(Value.slice X.tabs.a X.tabs.n X.tabs.c).ownBlock:=fun e=>by have:=(h.own4.lt po e.symm).1;omega
 have H:=h.pl;have cell:∀{o:Nat} {x:Value},wr.cell? ⟨po,o,none⟩=some x->r.cell? ⟨po,o,none⟩=some x:=fun i=>l.cell (za i hb) q
 have d:∀{o:Nat} {x:Value},o≠4->wr.cell? ⟨po,o,none⟩=some x->(r.setCell ⟨po,4,none⟩ (.slice (some ⟨g,0,none⟩) (X.tabs.n+1) f)).cell? ⟨po,o,none⟩=some x:=fun C i=>(zou _ _ _ _ (fun e=>C (congrArg Addr.off e).symm)).trans (cell i)
 have J:=hb.size;have K:=l.size;have B:=(E.lt g rfl);exact{
  c0:=d (by decide) h.c0
  c1:=d (by decide) h.c1
  c2:=d (by decide) h.c2
  c3:=d (by decide) h.c3
  c4:=zot _ _ _ (cell h.c4)
  c5:=d (by decide) h.c5
  c6:=d (by decide) h.c6
  fz:=fun o=>by rw[World.frozen?_setCell,l.frozen_far ⟨po,o,none⟩ (by show po<_;omega) q,hb.frozen (p:=⟨po,o,none⟩) (by show po<_;omega)];exact h.fz o
  ph:=h.ph
  pl:=by rw[zow];omega
  own0:=yi h.own0 h.own4 (by decide) hb l (zoF _)
  inn0:=fun x i=>kHead.step (h.inn0 x i) m
  blk0:=fun b hb=>.inl (h.blk0 b hb)
  own2:=yi h.own2 h.own4 (by decide) hb l (zoF _)
  inn2:=fun x i=>kState.step (h.inn2 x i) m
  blk2:=fun b hb=>.inl (h.blk2 b hb)
  own3:=yi h.own3 h.own4 (by decide) hb l (zoF _)
  inn3:=fun x i=>kAct.step (h.inn3 x i) m
  blk3:=fun b hb=>.inl (h.blk3 b hb)
  own4:=by
   have:=ownsRow_setCell_below E (a:=⟨po,4,none⟩) (zoF _) (.slice (some ⟨g,0,none⟩) (X.tabs.n+1) f);rw[show(X.ts++[x']).flatMap kTab.cells=X.ts.flatMap kTab.cells++kTab.cells x' by simp]
   exact this
  inn4:=fun x i=>by
   rcases List.mem_append.1 i with i|i
   ·exact kTab.step (h.inn4 x i) m
   ·simp only[zoD,zoA,or_false]at i;rw[i];exact G.fresh I kTab A
  blk4:=fun b hb=>.inr (zoq hb).symm
  own5:=yi h.own5 h.own4 (by decide) hb l (zoF _)
  inn5:=fun x i=>kNode.step (h.inn5 x i) m
  blk5:=fun b hb=>.inl (h.blk5 b hb)
  ms:=h.ms.step (Kd.keeps kInt) m
  ms0:=h.ms0
  os:=h.os.step (Kd.keeps kInt) m
  os0:=h.os0
  oc:=h.oc
  fpo:=.inl h.fpo
  fold:=fun b hb=>.inl (h.fold b hb)
  flt:=fun k t=>by
   rw[zow];rcases t with t|rfl
   ·have:=h.flt k t;omega
   ·exact B.2
  bel:=by
   have:=h.ph;refine zoV ?_ (by show w.heap.size+2<=po;omega) _
   refine(h.bel.trans (hb.mono (by omega))).grown l (by omega) fun k t=>?_
   have:=(h.own4.lt k t).1;omega}
theorem OutAt.push5{w D wr y r W:World}{po g f:Nat}{F:Nat->Prop}{X:PlanD}{x':NodeD}(h:OutAt w D po F X wr)(hb:Below wr.heap.size wr y)(I:wr.heap.size<=W.heap.size)(A:kNode.inn x' (mask (old W) (fun _=>Classical.propDecidable _) y))
 (E:r.ownsRow (po+1) 65 kNode.k (.slice (some ⟨g,0,none⟩) (X.nodes.n+1) f) (X.nodes.n+1) (X.ns.flatMap kNode.cells++kNode.cells x')) (l:y.grownBy r (Value.slice X.nodes.a X.nodes.n X.nodes.c).ownBlock) (s:X.nodes.a=some ⟨g,0,none⟩\/y.heap.size<=g):
 OutAt w D po (zae F g) {X with nodes:=⟨some ⟨g,0,none⟩,X.nodes.n+1,f⟩,ns:=X.ns++[x']} (r.setCell ⟨po,5,none⟩ (.slice (some ⟨g,0,none⟩) (X.nodes.n+1) f)):=by
 have G:=zbi (g:=g) (u:=.slice (some ⟨g,0,none⟩) (X.nodes.n+1) f) (j:=5) (v:=.slice X.nodes.a X.nodes.n X.nodes.c) h hb l h.blk5 (s.elim (fun e=>.inl (by rw[e];rfl)) .inr)
 have m:=G.mask;have q:some po≠(Value.slice X.nodes.a X.nodes.n X.nodes.c).ownBlock:=fun e=>by have:=(h.own5.lt po e.symm).1;omega
 have H:=h.pl;have cell:∀{o:Nat} {x:Value},wr.cell? ⟨po,o,none⟩=some x->r.cell? ⟨po,o,none⟩=some x:=fun i=>l.cell (za i hb) q
 have d:∀{o:Nat} {x:Value},o≠5->wr.cell? ⟨po,o,none⟩=some x->(r.setCell ⟨po,5,none⟩ (.slice (some ⟨g,0,none⟩) (X.nodes.n+1) f)).cell? ⟨po,o,none⟩=some x:=fun C i=>(zou _ _ _ _ (fun e=>C (congrArg Addr.off e).symm)).trans (cell i)
 have J:=hb.size;have K:=l.size;have B:=(E.lt g rfl);exact{
  c0:=d (by decide) h.c0
  c1:=d (by decide) h.c1
  c2:=d (by decide) h.c2
  c3:=d (by decide) h.c3
  c4:=d (by decide) h.c4
  c5:=zot _ _ _ (cell h.c5)
  c6:=d (by decide) h.c6
  fz:=fun o=>by rw[World.frozen?_setCell,l.frozen_far ⟨po,o,none⟩ (by show po<_;omega) q,hb.frozen (p:=⟨po,o,none⟩) (by show po<_;omega)];exact h.fz o
  ph:=h.ph
  pl:=by rw[zow];omega
  own0:=yi h.own0 h.own5 (by decide) hb l (zoF _)
  inn0:=fun x i=>kHead.step (h.inn0 x i) m
  blk0:=fun b hb=>.inl (h.blk0 b hb)
  own2:=yi h.own2 h.own5 (by decide) hb l (zoF _)
  inn2:=fun x i=>kState.step (h.inn2 x i) m
  blk2:=fun b hb=>.inl (h.blk2 b hb)
  own3:=yi h.own3 h.own5 (by decide) hb l (zoF _)
  inn3:=fun x i=>kAct.step (h.inn3 x i) m
  blk3:=fun b hb=>.inl (h.blk3 b hb)
  own4:=yi h.own4 h.own5 (by decide) hb l (zoF _)
  inn4:=fun x i=>kTab.step (h.inn4 x i) m
  blk4:=fun b hb=>.inl (h.blk4 b hb)
  own5:=by
   have:=ownsRow_setCell_below E (a:=⟨po,5,none⟩) (zoF _) (.slice (some ⟨g,0,none⟩) (X.nodes.n+1) f);rw[show(X.ns++[x']).flatMap kNode.cells=X.ns.flatMap kNode.cells++kNode.cells x' by simp]
   exact this
  inn5:=fun x i=>by
   rcases List.mem_append.1 i with i|i
   ·exact kNode.step (h.inn5 x i) m
   ·simp only[zoD,zoA,or_false]at i;rw[i];exact G.fresh I kNode A
  blk5:=fun b hb=>.inr (zoq hb).symm
  ms:=h.ms.step (Kd.keeps kInt) m
  ms0:=h.ms0
  os:=h.os.step (Kd.keeps kInt) m
  os0:=h.os0
  oc:=h.oc
  fpo:=.inl h.fpo
  fold:=fun b hb=>.inl (h.fold b hb)
  flt:=fun k t=>by
   rw[zow];rcases t with t|rfl
   ·have:=h.flt k t;omega
   ·exact B.2
  bel:=by
   have:=h.ph;refine zoV ?_ (by show w.heap.size+2<=po;omega) _
   refine(h.bel.trans (hb.mono (by omega))).grown l (by omega) fun k t=>?_
   have:=(h.own5.lt k t).1;omega}
end Go.Proofs.YtbmcgbmegcpgnaaGreat
