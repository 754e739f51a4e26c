import Derived.Test.YtdajaaondlekfaaGreatVWWays2
import Derived.Test.YtdajaaondlekfaaGreatG28
import Derived.Test.YtdajaaondlekfaaGreatVQForm
set_option maxHeartbeats 200000
set_option maxRecDepth 20000
set_option linter.unusedSimpArgs false
namespace Go.Proofs.YtdajaaondlekfaaGreat
open Go.RowKit
theorem Tryz.infoRSets:(Tryz.prog.info? 77).map (fun i=>(i.zero,i.size,i.bytes))=some (some (.agg #[.int .u64 0,.int .u64 0,.int .i64 0,.int .i64 0,.bool false]),5,40):=by kernel_rfl
theorem zc4(d:PlanD)(w:World)(a:d.lie w)(f:d.p.little):Calls Tryz.prog 28 #[d.v] w fun e w'=>e=.returned (.agg #[.int .i64 (zD d.p).1,.int .i64 (zD d.p).2])/\Below w.heap.size w w':=
 (zj8 d w a f).mono fun e w' ⟨C,A,b,c,hb⟩=>by
  obtain⟨rfl,rfl⟩:=zkv a b;exact⟨c,hb⟩
theorem zgt{t b:Nat}(a:t<2^6)(hb:b<=256):(⟨t,t,b,b,true⟩:Wk.Sets).few:=⟨a,a,by show b<=1000;omega,by show b<=1000;omega⟩
theorem zmb{A:List Wk.Sets}{y:Wk.Way}(h:Few A)(a:y.tk<2^6/\y.by_<=256):Few (Wk.addW A y):=h.set (zfp (h.at _) (zgt a.1 a.2))
def qm(n:Nat)(L:List Wk.Way)(k:Nat):List Wk.Sets:=(L.take k).foldl Wk.addW (List.replicate (n+1) Wk.zero)
theorem ziL{n:Nat}{L:List Wk.Way}{k:Nat}{y:Wk.Way}(h:L[k]?=some y):qm n L (k+1)=Wk.addW (qm n L k) y:=by
 unfold qm;rw[zoI,h];simp
theorem zkT(n:Nat)(L:List Wk.Way):qm n L L.length=Wk.sumW n L:=by
 unfold qm Wk.sumW;rw[List.take_length]
theorem zkU{n:Nat}{L:List Wk.Way}(h:∀y∈L,y.tk<2^6/\y.by_<=256):∀k,Few (qm n L k)/\(qm n L k).length=n+1:=by
 intro k;have e:∀(M:List Wk.Way) (A:List Wk.Sets),(∀y∈M,y.tk<2^6/\y.by_<=256)->Few A->Few (M.foldl Wk.addW A)/\(M.foldl Wk.addW A).length=A.length:=by
  intro M;induction M with
  |nil=>exact fun A _ a=>⟨a,rfl⟩
  |cons y M ih=>
   intro A b a;have:=ih (Wk.addW A y) (fun z c=>b z (List.mem_cons_of_mem _ c)) (zmb a (b y List.mem_cons_self))
   exact⟨this.1,this.2.trans (by unfold Wk.addW;simp)⟩
 have:=e (L.take k) (List.replicate (n+1) Wk.zero) (fun y d=>h y (List.mem_of_mem_take d)) (fun s hs=>by rw[List.eq_of_mem_replicate hs];exact zfq)
 exact⟨this.1,by rw[qm,this.2,List.length_replicate]⟩
theorem zmc{g:Nat}{A:List Wk.Sets}{w w':World}{j:Nat}{x s:Wk.Sets}(h:Ahd g A w)(f:A[j]?=some x)(far:∀k,k<j*5\/j*5+5<=k->w'.cell? ⟨g,k,none⟩=w.cell? ⟨g,k,none⟩)(hf:Five w' g (j*5) s)(d:∀o,w'.frozen? ⟨g,o,none⟩=w.frozen? ⟨g,o,none⟩)(hs:w.heap.size<=w'.heap.size):Ahd g (A.set j s) w':=by
 refine⟨fun i y a=>?_,fun o=>(d o).trans (h.fz o),zom h.lt hs⟩
 rw[List.getElem?_set]at a;by_cases e:j=i
 ·subst e;rw[if_pos rfl,if_pos (zok.1 f).1]at a;cases a
  exact hf
 ·rw[if_neg e]at a;have b:=h.cs i y a;have c:∀k,k<5->w'.cell? ⟨g,i*5+k,none⟩=w.cell? ⟨g,i*5+k,none⟩:=fun k l=>far _ (by omega)
  exact⟨(c 0 (by decide)).trans b.c0,(c 1 (by decide)).trans b.c1,(c 2 (by decide)).trans b.c2,(c 3 (by decide)).trans b.c3,(c 4 (by decide)).trans b.c4⟩
end Go.Proofs.YtdajaaondlekfaaGreat
