import Derived.Test.YtdajaaondlekfaaGreatVWLeads
import Derived.Test.YtdajaaondlekfaaGreatG28
set_option maxHeartbeats 200000
set_option maxRecDepth 20000
set_option linter.unusedSimpArgs false
namespace Go.Proofs.YtdajaaondlekfaaGreat
open Go.RowKit
theorem Tryz.infoWay:(Tryz.prog.info? 111).map (fun i=>(i.zero,i.size,i.bytes))=some (some (.agg #[.int .i64 0,.int .u64 0,.int .i64 0]),3,24):=by kernel_rfl
def jK(y:Wk.Way):List Value:=[.int .i64 (y.st:Int),.int .u64 (y.tk:Int),.int .i64 (y.by_:Int)]
theorem zk3{L:List Wk.Way}{i:Nat}{y:Wk.Way}(h:L[i]?=some y)(k:Nat)(a:k<3):(L.flatMap jK)[i*3+k]?=(jK y)[k]?:=by
 induction L generalizing i with
 |nil=>simp at h
 |cons x L ih=>
  rw[List.flatMap_cons];cases i with
  |zero=>
   simp only[List.getElem?_cons_zero,zoo]at h;subst h;rw[Nat.zero_mul,zoK,zoL (by simp[jK];omega)]
  |succ i=>
   rw[zoO (by simp[jK];omega)]
   have e:(i+1)*3+k-(jK x).length=i*3+k:=by simp[jK];omega
   rw[e];exact ih (by simpa using h)
theorem zdM(L:List Wk.Way):∀u∈L.flatMap jK,u.oneCell'=true:=by
 intro u b;obtain⟨y,_,a⟩:=List.mem_flatMap.1 b;simp only[jK,zoD,zoA,or_false]at a;rcases a with rfl|rfl|rfl<;>rfl
def OwnW(B:Nat)(a:Option Addr)(c:Nat)(L:List Wk.Way)(w:World):Prop:=w.ownsRow B 111 3 (.slice a L.length c) L.length (L.flatMap jK)
theorem OwnW.step{B:Nat}{a:Option Addr}{c:Nat}{L:List Wk.Way}{w w':World}(h:OwnW B a c L w)(b:Below w.heap.size w w'):OwnW B a c L w':=ya h b
theorem OwnW.at{B:Nat}{a:Option Addr}{c:Nat}{L:List Wk.Way}{w:World}(h:OwnW B a c L w){i:Nat}{y:Wk.Way}(f:L[i]?=some y):∃g,a=some ⟨g,0,none⟩/\B<=g/\w.cell? ⟨g,i*3,none⟩=some (.int .i64 (y.st:Int))/\w.cell? ⟨g,i*3+1,none⟩=some (.int .u64 (y.tk:Int))/\w.cell? ⟨g,i*3+2,none⟩=some (.int .i64 (y.by_:Int)):=by
 have hi:=(zok.1 f).1;unfold OwnW at h;rcases h.2 with⟨_,e⟩|⟨g,cap,d,e,hb,m,q,_,o,n⟩
 ·omega
 ·simp only[zox,true_and]at e;obtain⟨rfl,rfl⟩:=e;have b:∀k,k<3->w.cell? ⟨g,i*3+k,none⟩=(jK y)[k]?:=fun k l=>by
   have j:d[i*3+k]?=(L.flatMap jK)[i*3+k]?:=by
    rw[<-n,List.getElem?_take_of_lt (by omega),Array.getElem?_toList]
   rw[zk3 f k l]at j;simp[World.cell?,m,j]
  exact⟨g,rfl,hb,b 0 (by decide),b 1 (by decide),b 2 (by decide)⟩
theorem zk4(w:World):OwnW w.heap.size (some ⟨w.heap.size,0,none⟩) 1 [⟨0,0,0⟩] (w.alloc (.cells #[.int .i64 0,.int .u64 0,.int .i64 0] 111)):=by
 unfold OwnW;refine⟨rfl,.inr ⟨w.heap.size,1,#[.int .i64 0,.int .u64 0,.int .i64 0],rfl,zos _,heap_alloc_new w _,zos _,by decide,rfl,rfl⟩⟩
def jC(p:PPlan)(i:Nat):List Nat:=xD p.ss.length (ye (p.ss.getD i PState.z))
def zfx(p:PPlan)(h:(zD p).1=0)(w:World)(e:Ending)(w':World):Prop:=∃(a:Option Addr) (c:Nat) (L:List Wk.Way),e=.returned (.slice a L.length c)/\L=⟨0,0,0⟩::L.flatMap (Wk.succW (yj p h) (jC p))/\(∀y∈L,y.st<=p.ss.length)/\L.length<=2^(p.ss.length+1)/\OwnW w.heap.size a c L w'/\Below w.heap.size w w'
theorem zgB{p:PPlan}(h:(zD p).1=0){i:Nat}{L:List Wk.Way}(g:Wk.Gone (yj p h) (jC p) i L):∀y∈L,y.tk<2^6/\y.by_<=256:=by
 have t:(p.ss.length:Int)<=8:=(zB h 2 (by decide)).2.1
 have f:∀y∈L,Wk.Wy (yj p h) y.st y.tk y.by_:=by
  have e:=g.eq;have st:=g.st;have d:∀y∈L,y=⟨0,0,0⟩\/∃v∈L,y∈Wk.succW (yj p h) (jC p) v:=fun y a=>by
   rw[e]at a;rcases zoD.1 a with rfl|a
   ·exact .inl rfl
   ·obtain⟨v,c,hs⟩:=List.mem_flatMap.1 a;exact .inr ⟨v,List.mem_of_mem_take c,hs⟩
  have l:∀(n:Nat) (y:Wk.Way),y.st=n->y∈L->Wk.Wy (yj p h) y.st y.tk y.by_:=by
   intro n;induction n using Nat.strongRecOn with
   |ind n ih=>
    intro y s a;rcases d y a with rfl|⟨v,c,hs⟩
    ·exact Wk.Wy.nil
    ·have q:=st v c;unfold Wk.succW at hs;by_cases k:v.st=(yj p h).n
     ·rw[if_pos k]at hs;simp at hs
     ·rw[if_neg k,zoJ]at hs;obtain⟨j,r,rfl⟩:=hs;have b:=(qK h v.st (by omega) j).1 r
      have m:=((yj p h).on v.st j (by omega) b).1
      exact(ih v.st (by have:j=n:=s;omega) v rfl c).step (by omega) b
  exact fun y a=>l y.st y rfl a
 intro y a;have:=Wk.wy_small (K:=6) (Z:=32) (zeg h) (zeh h) (f y a);have hs:=g.st y a;have o:y.st<=p.ss.length:=hs;exact⟨this.1,by omega⟩
end Go.Proofs.YtdajaaondlekfaaGreat
