import Derived.Test.YtdajaaondlekfaaGreatVWBehind
import Derived.Test.YtdajaaondlekfaaGreatG18
import Derived.Test.YtdajaaondlekfaaGreatG14
set_option maxHeartbeats 4000000
set_option maxRecDepth 20000
set_option linter.unusedSimpArgs false
namespace Go.Proofs.YtdajaaondlekfaaGreat
open Go.RowKit
theorem zfp{s t:Wk.Sets}(hs:s.few)(a:t.few):(Wk.joinS s t).few:=by
 unfold Wk.joinS;split
 ·exact⟨Nat.lt_of_le_of_lt Nat.and_le_left hs.mu,Nat.or_lt_two_pow hs.ma a.ma,by have:=hs.le;have:=a.le;simp only;omega,by have:=hs.mo;have:=a.mo;simp only;omega⟩
 ·exact a
def Few(A:List Wk.Sets):Prop:=∀s∈A,s.few
theorem zfq:Wk.zero.few:=⟨by decide,by decide,by decide,by decide⟩
theorem Few.at{A:List Wk.Sets}(h:Few A)(j:Nat):(A.getD j Wk.zero).few:=by
 rw[zoi];cases e:A[j]? with
 |none=>exact zfq
 |some x=>exact h x (zol e)
theorem Few.set{A:List Wk.Sets}(h:Few A){j:Nat}{s:Wk.Sets}(hs:s.few):Few (A.set j s):=fun x b=>by
 rcases List.mem_or_eq_of_mem_set b with a|a
 ·exact h x a
 ·rw[a];exact hs
theorem zkL{n:Nat}{A:List Wk.Sets}{s:Wk.Sets}{tq:Int}(h:Few A)(hs:s.few):Few (xP n A s tq):=by
 unfold xP;split
 ·exact h
 ·exact h.set (zfp (h.at _) hs)
theorem zfr{n:Nat}{A:List Wk.Sets}{s:Wk.Sets}{tq:Int}:(xP n A s tq).length=A.length:=by
 unfold xP;split
 ·rfl
 ·simp
theorem zc2(n:Nat)(s:Wk.Sets):∀(l:List Int) (A:List Wk.Sets),l.foldl (fun A tq=>xP n A s tq) A=Wk.leadTo A s (kv n l)
 |[],_=>rfl
 |tq::l,A=>by
  rw[List.foldl_cons,zc2 n s l];by_cases e:tq=1001
  ·have b:xP n A s tq=A:=by unfold xP;rw[if_pos e]
   have a:kv n (tq::l)=kv n l:=by unfold kv;rw[List.filterMap_cons_none (by rw[if_pos e])]
   rw[b,a]
  ·have b:xP n A s tq=A.set (yZ n tq) (Wk.joinS (A.getD (yZ n tq) Wk.zero) s):=by unfold xP;rw[if_neg e]
   have a:kv n (tq::l)=yZ n tq::kv n l:=by unfold kv;rw[List.filterMap_cons_some (by rw[if_neg e])]
   rw[b,a];rfl
theorem zl6(q g:Nat)(A:List Wk.Sets)(s:Wk.Sets)(w:World)(ha:Ahd g A w):Calls Tryz.prog 147 #[.pointer (some ⟨q,0,none⟩),.int .i64 1001,s.v] w (jA g A w):=by
 have a:Hid (∀o,jA g A w (.returned (.tuple #[])) (w.alloc o)):=fun o=>⟨rfl,ha.step (ze (zof _ _)),But.of (ze (zof _ _)) (Nat.le_of_lt ha.lt)⟩
 clear ha;go_enter Tryz.func147,Tryz.ntmps147
 go_wp2;go_end0
 exact a.out _
theorem ziE{d:PlanD}{q g:Nat}{A:List Wk.Sets}{w:World}(s:Wk.Sets)(tq:Int)(hb:WkB d q g w)(ha:Ahd g A w)(hf:Few A)(hs:s.few)(c:A.length=d.states.n+1)(i:tq=1000\/tq=1001\/(0<=tq/\tq<(d.states.n:Int)))(j:d.states.n<=8):
 Calls Tryz.prog 147 #[.pointer (some ⟨q,0,none⟩),.int .i64 tq,s.v] w (jA g (xP d.states.n A s tq) w):=by
 by_cases e:tq=1001
 ·subst e;have:xP d.states.n A s 1001=A:=by unfold xP;rw[if_pos rfl]
  rw[this];exact zl6 q g A s w ha
 ·have h:xP d.states.n A s tq=A.set (yZ d.states.n tq) (Wk.joinS (A.getD (yZ d.states.n tq) Wk.zero) s):=by unfold xP;rw[if_neg e]
  rw[h];have f:yZ d.states.n tq<A.length:=by unfold yZ;split<;>omega
  have b:A[yZ d.states.n tq]?=some (A.getD (yZ d.states.n tq) Wk.zero):=by rw[zoi,zoh f];rfl
  refine zl7 s _ tq _ hb ha hs (hf.at _) b c e ?_;unfold yZ;by_cases a:tq=1000
  ·exact .inl ⟨a,by rw[if_pos a]⟩
  ·exact .inr ⟨a,by rw[if_neg a];omega⟩
def zaR(g:Nat)(C:Int)(a:List Wk.Sets)(w:World)(e:Ending)(w':World):Prop:=e=.returned (.int .i64 C)/\But g w w'/\(C=0->Ahd g a w')
theorem znU{d:PlanD}{q g:Nat}{A:List Wk.Sets}{w:World}(k:Nat)(hb:WkB d q g w)(ha:Ahd g A w){x:Wk.Sets}(a:A[k]?=some x)(f:A.length=d.states.n+1)(b:x.there=false):
 Calls Tryz.prog 104 #[.pointer (some ⟨q,0,none⟩),.int .i64 k] w (zaR g 0 A w):=by
 have e:Hid (zaR g 0 A w (.returned (.int .i64 0)) w):=⟨rfl,But.refl _ _,fun _=>ha⟩
 obtain⟨m,hm⟩:∃m,m=d.states.n+1:=⟨_,rfl⟩;have h7:=hb.h7;rw[<-hm]at h7;have c4:=(ha.cs k x a).c4;rw[b]at c4;have h:(k:Int)<(m:Int):=by have:=(zok.1 a).1;omega
 have c:(0:Int)<=(k:Int):=by omega
 clear hb ha a f b hm;go_enter Tryz.func104,Tryz.ntmps104
 go_wp2;go_ret;exact e.out
theorem zbs(h:Int)(h0:0<=h)(a:h<6)(w:World):Calls Tryz.prog 30 #[.int .i64 h] w fun e w'=>e=.returned (.int .u64 (zv h))/\w'=w:=by
 rcases qo (show¬h<0 by omega) a with rfl|rfl|rfl|rfl|rfl|rfl
 all_goals
  go_enter Tryz.func30,Tryz.ntmps30
  go_wp2;go_ret;exact⟨rfl,rfl⟩
theorem zgm(a:Option Addr)(m c:Nat)(ws:List Int)(w:World)(hw:Has .i64 w a m ws)(h:yJ ws=0):
 Calls Tryz.prog 57 #[.agg #[.slice a m c]] w fun e w'=>e=.returned (.tuple #[.int .i64 (xZ ws:Int),.agg #[.int .i64 0,.int .i64 0]])/\Below w.heap.size w w':=by
 obtain⟨g,d,hf,b,f⟩:=qI h;have i:=hw.1;rw[i]at g d hf b f;refine(zdH a m c ws w g d hw hf).mono fun e w' ⟨x,j,k,hb⟩=>⟨?_,hb⟩
 rw[j,k.1 ⟨b,f⟩];unfold xZ;rw[i]
end Go.Proofs.YtdajaaondlekfaaGreat
