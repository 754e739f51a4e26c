import Derived.Test.YtdajaaondlekfaaGreatG30
import Derived.Test.YtdajaaondlekfaaGreatG5
import Derived.Test.YtdajaaondlekfaaGreatG25
set_option maxHeartbeats 8000000
set_option maxRecDepth 20000
set_option linter.unusedSimpArgs false
namespace Go.Proofs.YtdajaaondlekfaaGreat
open Go.RowKit
@[reducible] def CD(d h g b f c e a:Nat):PlanD:=⟨⟨some ⟨h,0,none⟩,1,1⟩,[⟨⟨some ⟨d,0,none⟩,1,1⟩,[8]⟩],⟨none,0,0⟩,[],⟨some ⟨g,0,none⟩,1,1⟩,[⟨0,⟨0,0⟩,⟨none,0,0⟩,[],1000⟩],⟨some ⟨c,0,none⟩,1,1⟩,[⟨⟨none,0,0⟩,[],⟨some ⟨f,0,none⟩,1,1⟩,[⟨1,⟨0,0⟩,0,⟨some ⟨b,0,none⟩,3,3⟩,[⟨2,⟨0,0⟩,0⟩,⟨1,⟨0,0⟩,1⟩,⟨3,⟨0,0⟩,0⟩]⟩]⟩],⟨none,0,0⟩,[],⟨some ⟨e,0,none⟩,1,1⟩,[⟨2,0,⟨none,0,0⟩,[],1,0⟩],⟨some ⟨a,0,none⟩,1,1⟩,[0]⟩
theorem CD.small(d h g b f c e a:Nat):(CD d h g b f c e a).small:=⟨(by decide:1<=10000),by simp,by simp,(by decide:1<=10000)⟩
theorem CD.fits(d h g b f c e a:Nat):(CD d h g b f c e a).fits:=⟨by simp,by simp,by simp,by simp,by simp,by simp,by simp⟩
theorem CD.nil0(d h g b f c e a:Nat):(CD d h g b f c e a).nil0:=⟨by simp[QSl.nil0],by simp[QSl.nil0],by simp[QSl.nil0],by simp[QSl.nil0],by simp[QSl.nil0],by simp[QSl.nil0],by simp[QSl.nil0]⟩
theorem zgD(w W:World)(n:Nat)(b:n=w.heap.size)(a:W=(((((((((w.alloc (.cells #[.slice (some ⟨n+1+1+1,0,none⟩) 1 1,.slice none 0 0,.slice (some ⟨n+1+1+1+1,0,none⟩) 1 1,.slice (some ⟨n+1+1+1+1+1+1+1,0,none⟩) 1 1,.slice none 0 0,.slice (some ⟨n+1+1+1+1+1+1+1+1,0,none⟩) 1 1,.slice (some ⟨n+1+1+1+1+1+1+1+1+1,0,none⟩) 1 1] 29)).alloc (.cells #[.int .i64 0,.int .i64 0] 57)).alloc (.cells #[.int .i64 8] 3)).alloc (.cells #[.slice (some ⟨n+1+1,0,none⟩) 1 1] 55)).alloc (.cells #[.int .i64 0,.int .i64 0,.int .i64 0,.slice none 0 0,.int .i64 1000] 60)).alloc (.cells #[.int .i64 2,.int .i64 0,.int .i64 0,.int .u64 0,.int .i64 1,.int .i64 0,.int .i64 0,.int .u64 1,.int .i64 3,.int .i64 0,.int .i64 0,.int .u64 0] 95)).alloc (.cells #[.int .i64 1,.int .i64 0,.int .i64 0,.int .i64 0,.slice (some ⟨n+1+1+1+1+1,0,none⟩) 3 3] 66)).alloc (.cells #[.slice none 0 0,.slice (some ⟨n+1+1+1+1+1+1,0,none⟩) 1 1] 63)).alloc (.cells #[.int .i64 2,.int .i64 0,.slice none 0 0,.int .i64 1,.int .i64 0] 71)).alloc (.cells #[.int .i64 0] 3)):(CD (n+1+1) (n+1+1+1) (n+1+1+1+1) (n+1+1+1+1+1) (n+1+1+1+1+1+1) (n+1+1+1+1+1+1+1) (n+1+1+1+1+1+1+1+1) (n+1+1+1+1+1+1+1+1+1)).lie W/\Below w.heap.size w W:=by
 have y:W.cell? ⟨n+1+1,0,none⟩=some (.int .i64 8):=by
  rw[a,b];refine(zoe _ _ _ (by simp<;>omega)).trans ?_
  refine(zoe _ _ _ (by simp<;>omega)).trans ?_
  refine(zoe _ _ _ (by simp<;>omega)).trans ?_
  refine(zoe _ _ _ (by simp<;>omega)).trans ?_
  refine(zoe _ _ _ (by simp<;>omega)).trans ?_
  refine(zoe _ _ _ (by simp<;>omega)).trans ?_
  refine(zoe _ _ _ (by simp<;>omega)).trans ?_
  exact(zod _ _ _ _ (by simp)).trans rfl
 have H:W.cell? ⟨n+1+1+1,0,none⟩=some (.slice (some ⟨n+1+1,0,none⟩) 1 1):=by
  rw[a,b];refine(zoe _ _ _ (by simp<;>omega)).trans ?_
  refine(zoe _ _ _ (by simp<;>omega)).trans ?_
  refine(zoe _ _ _ (by simp<;>omega)).trans ?_
  refine(zoe _ _ _ (by simp<;>omega)).trans ?_
  refine(zoe _ _ _ (by simp<;>omega)).trans ?_
  refine(zoe _ _ _ (by simp<;>omega)).trans ?_
  exact(zod _ _ _ _ (by simp)).trans rfl
 have q:W.cell? ⟨n+1+1+1+1,0,none⟩=some (.int .i64 0):=by
  rw[a,b];refine(zoe _ _ _ (by simp<;>omega)).trans ?_
  refine(zoe _ _ _ (by simp<;>omega)).trans ?_
  refine(zoe _ _ _ (by simp<;>omega)).trans ?_
  refine(zoe _ _ _ (by simp<;>omega)).trans ?_
  refine(zoe _ _ _ (by simp<;>omega)).trans ?_
  exact(zod _ _ _ _ (by simp)).trans rfl
 have f:W.cell? ⟨n+1+1+1+1,1,none⟩=some (.int .i64 0):=by
  rw[a,b];refine(zoe _ _ _ (by simp<;>omega)).trans ?_
  refine(zoe _ _ _ (by simp<;>omega)).trans ?_
  refine(zoe _ _ _ (by simp<;>omega)).trans ?_
  refine(zoe _ _ _ (by simp<;>omega)).trans ?_
  refine(zoe _ _ _ (by simp<;>omega)).trans ?_
  exact(zod _ _ _ _ (by simp)).trans rfl
 have k:W.cell? ⟨n+1+1+1+1,2,none⟩=some (.int .i64 0):=by
  rw[a,b];refine(zoe _ _ _ (by simp<;>omega)).trans ?_
  refine(zoe _ _ _ (by simp<;>omega)).trans ?_
  refine(zoe _ _ _ (by simp<;>omega)).trans ?_
  refine(zoe _ _ _ (by simp<;>omega)).trans ?_
  refine(zoe _ _ _ (by simp<;>omega)).trans ?_
  exact(zod _ _ _ _ (by simp)).trans rfl
 have m:W.cell? ⟨n+1+1+1+1,3,none⟩=some (.slice none 0 0):=by
  rw[a,b];refine(zoe _ _ _ (by simp<;>omega)).trans ?_
  refine(zoe _ _ _ (by simp<;>omega)).trans ?_
  refine(zoe _ _ _ (by simp<;>omega)).trans ?_
  refine(zoe _ _ _ (by simp<;>omega)).trans ?_
  refine(zoe _ _ _ (by simp<;>omega)).trans ?_
  exact(zod _ _ _ _ (by simp)).trans rfl
 have j:W.cell? ⟨n+1+1+1+1,4,none⟩=some (.int .i64 1000):=by
  rw[a,b];refine(zoe _ _ _ (by simp<;>omega)).trans ?_
  refine(zoe _ _ _ (by simp<;>omega)).trans ?_
  refine(zoe _ _ _ (by simp<;>omega)).trans ?_
  refine(zoe _ _ _ (by simp<;>omega)).trans ?_
  refine(zoe _ _ _ (by simp<;>omega)).trans ?_
  exact(zod _ _ _ _ (by simp)).trans rfl
 have D:W.cell? ⟨n+1+1+1+1+1,0,none⟩=some (.int .i64 2):=by
  rw[a,b];refine(zoe _ _ _ (by simp<;>omega)).trans ?_
  refine(zoe _ _ _ (by simp<;>omega)).trans ?_
  refine(zoe _ _ _ (by simp<;>omega)).trans ?_
  refine(zoe _ _ _ (by simp<;>omega)).trans ?_
  exact(zod _ _ _ _ (by simp)).trans rfl
 have J:W.cell? ⟨n+1+1+1+1+1,1,none⟩=some (.int .i64 0):=by
  rw[a,b];refine(zoe _ _ _ (by simp<;>omega)).trans ?_
  refine(zoe _ _ _ (by simp<;>omega)).trans ?_
  refine(zoe _ _ _ (by simp<;>omega)).trans ?_
  refine(zoe _ _ _ (by simp<;>omega)).trans ?_
  exact(zod _ _ _ _ (by simp)).trans rfl
 have u:W.cell? ⟨n+1+1+1+1+1,2,none⟩=some (.int .i64 0):=by
  rw[a,b];refine(zoe _ _ _ (by simp<;>omega)).trans ?_
  refine(zoe _ _ _ (by simp<;>omega)).trans ?_
  refine(zoe _ _ _ (by simp<;>omega)).trans ?_
  refine(zoe _ _ _ (by simp<;>omega)).trans ?_
  exact(zod _ _ _ _ (by simp)).trans rfl
 have h:W.cell? ⟨n+1+1+1+1+1,3,none⟩=some (.int .u64 0):=by
  rw[a,b];refine(zoe _ _ _ (by simp<;>omega)).trans ?_
  refine(zoe _ _ _ (by simp<;>omega)).trans ?_
  refine(zoe _ _ _ (by simp<;>omega)).trans ?_
  refine(zoe _ _ _ (by simp<;>omega)).trans ?_
  exact(zod _ _ _ _ (by simp)).trans rfl
 have B:W.cell? ⟨n+1+1+1+1+1,4,none⟩=some (.int .i64 1):=by
  rw[a,b];refine(zoe _ _ _ (by simp<;>omega)).trans ?_
  refine(zoe _ _ _ (by simp<;>omega)).trans ?_
  refine(zoe _ _ _ (by simp<;>omega)).trans ?_
  refine(zoe _ _ _ (by simp<;>omega)).trans ?_
  exact(zod _ _ _ _ (by simp)).trans rfl
 have I:W.cell? ⟨n+1+1+1+1+1,5,none⟩=some (.int .i64 0):=by
  rw[a,b];refine(zoe _ _ _ (by simp<;>omega)).trans ?_
  refine(zoe _ _ _ (by simp<;>omega)).trans ?_
  refine(zoe _ _ _ (by simp<;>omega)).trans ?_
  refine(zoe _ _ _ (by simp<;>omega)).trans ?_
  exact(zod _ _ _ _ (by simp)).trans rfl
 have E:W.cell? ⟨n+1+1+1+1+1,6,none⟩=some (.int .i64 0):=by
  rw[a,b];refine(zoe _ _ _ (by simp<;>omega)).trans ?_
  refine(zoe _ _ _ (by simp<;>omega)).trans ?_
  refine(zoe _ _ _ (by simp<;>omega)).trans ?_
  refine(zoe _ _ _ (by simp<;>omega)).trans ?_
  exact(zod _ _ _ _ (by simp)).trans rfl
 have C:W.cell? ⟨n+1+1+1+1+1,7,none⟩=some (.int .u64 1):=by
  rw[a,b];refine(zoe _ _ _ (by simp<;>omega)).trans ?_
  refine(zoe _ _ _ (by simp<;>omega)).trans ?_
  refine(zoe _ _ _ (by simp<;>omega)).trans ?_
  refine(zoe _ _ _ (by simp<;>omega)).trans ?_
  exact(zod _ _ _ _ (by simp)).trans rfl
 have o:W.cell? ⟨n+1+1+1+1+1,8,none⟩=some (.int .i64 3):=by
  rw[a,b];refine(zoe _ _ _ (by simp<;>omega)).trans ?_
  refine(zoe _ _ _ (by simp<;>omega)).trans ?_
  refine(zoe _ _ _ (by simp<;>omega)).trans ?_
  refine(zoe _ _ _ (by simp<;>omega)).trans ?_
  exact(zod _ _ _ _ (by simp)).trans rfl
 have L:W.cell? ⟨n+1+1+1+1+1,9,none⟩=some (.int .i64 0):=by
  rw[a,b];refine(zoe _ _ _ (by simp<;>omega)).trans ?_
  refine(zoe _ _ _ (by simp<;>omega)).trans ?_
  refine(zoe _ _ _ (by simp<;>omega)).trans ?_
  refine(zoe _ _ _ (by simp<;>omega)).trans ?_
  exact(zod _ _ _ _ (by simp)).trans rfl
 have c:W.cell? ⟨n+1+1+1+1+1,10,none⟩=some (.int .i64 0):=by
  rw[a,b];refine(zoe _ _ _ (by simp<;>omega)).trans ?_
  refine(zoe _ _ _ (by simp<;>omega)).trans ?_
  refine(zoe _ _ _ (by simp<;>omega)).trans ?_
  refine(zoe _ _ _ (by simp<;>omega)).trans ?_
  exact(zod _ _ _ _ (by simp)).trans rfl
 have e:W.cell? ⟨n+1+1+1+1+1,11,none⟩=some (.int .u64 0):=by
  rw[a,b];refine(zoe _ _ _ (by simp<;>omega)).trans ?_
  refine(zoe _ _ _ (by simp<;>omega)).trans ?_
  refine(zoe _ _ _ (by simp<;>omega)).trans ?_
  refine(zoe _ _ _ (by simp<;>omega)).trans ?_
  exact(zod _ _ _ _ (by simp)).trans rfl
 have l:W.cell? ⟨n+1+1+1+1+1+1,0,none⟩=some (.int .i64 1):=by
  rw[a,b];refine(zoe _ _ _ (by simp<;>omega)).trans ?_
  refine(zoe _ _ _ (by simp<;>omega)).trans ?_
  refine(zoe _ _ _ (by simp<;>omega)).trans ?_
  exact(zod _ _ _ _ (by simp)).trans rfl
 have M:W.cell? ⟨n+1+1+1+1+1+1,1,none⟩=some (.int .i64 0):=by
  rw[a,b];refine(zoe _ _ _ (by simp<;>omega)).trans ?_
  refine(zoe _ _ _ (by simp<;>omega)).trans ?_
  refine(zoe _ _ _ (by simp<;>omega)).trans ?_
  exact(zod _ _ _ _ (by simp)).trans rfl
 have G:W.cell? ⟨n+1+1+1+1+1+1,2,none⟩=some (.int .i64 0):=by
  rw[a,b];refine(zoe _ _ _ (by simp<;>omega)).trans ?_
  refine(zoe _ _ _ (by simp<;>omega)).trans ?_
  refine(zoe _ _ _ (by simp<;>omega)).trans ?_
  exact(zod _ _ _ _ (by simp)).trans rfl
 have x:W.cell? ⟨n+1+1+1+1+1+1,3,none⟩=some (.int .i64 0):=by
  rw[a,b];refine(zoe _ _ _ (by simp<;>omega)).trans ?_
  refine(zoe _ _ _ (by simp<;>omega)).trans ?_
  refine(zoe _ _ _ (by simp<;>omega)).trans ?_
  exact(zod _ _ _ _ (by simp)).trans rfl
 have t:W.cell? ⟨n+1+1+1+1+1+1,4,none⟩=some (.slice (some ⟨n+1+1+1+1+1,0,none⟩) 3 3):=by
  rw[a,b];refine(zoe _ _ _ (by simp<;>omega)).trans ?_
  refine(zoe _ _ _ (by simp<;>omega)).trans ?_
  refine(zoe _ _ _ (by simp<;>omega)).trans ?_
  exact(zod _ _ _ _ (by simp)).trans rfl
 have g:W.cell? ⟨n+1+1+1+1+1+1+1,0,none⟩=some (.slice none 0 0):=by
  rw[a,b];refine(zoe _ _ _ (by simp<;>omega)).trans ?_
  refine(zoe _ _ _ (by simp<;>omega)).trans ?_
  exact(zod _ _ _ _ (by simp)).trans rfl
 have N:W.cell? ⟨n+1+1+1+1+1+1+1,1,none⟩=some (.slice (some ⟨n+1+1+1+1+1+1,0,none⟩) 1 1):=by
  rw[a,b];refine(zoe _ _ _ (by simp<;>omega)).trans ?_
  refine(zoe _ _ _ (by simp<;>omega)).trans ?_
  exact(zod _ _ _ _ (by simp)).trans rfl
 have A:W.cell? ⟨n+1+1+1+1+1+1+1+1,0,none⟩=some (.int .i64 2):=by
  rw[a,b];refine(zoe _ _ _ (by simp<;>omega)).trans ?_
  exact(zod _ _ _ _ (by simp)).trans rfl
 have O:W.cell? ⟨n+1+1+1+1+1+1+1+1,1,none⟩=some (.int .i64 0):=by
  rw[a,b];refine(zoe _ _ _ (by simp<;>omega)).trans ?_
  exact(zod _ _ _ _ (by simp)).trans rfl
 have K:W.cell? ⟨n+1+1+1+1+1+1+1+1,2,none⟩=some (.slice none 0 0):=by
  rw[a,b];refine(zoe _ _ _ (by simp<;>omega)).trans ?_
  exact(zod _ _ _ _ (by simp)).trans rfl
 have r:W.cell? ⟨n+1+1+1+1+1+1+1+1,3,none⟩=some (.int .i64 1):=by
  rw[a,b];refine(zoe _ _ _ (by simp<;>omega)).trans ?_
  exact(zod _ _ _ _ (by simp)).trans rfl
 have F:W.cell? ⟨n+1+1+1+1+1+1+1+1,4,none⟩=some (.int .i64 0):=by
  rw[a,b];refine(zoe _ _ _ (by simp<;>omega)).trans ?_
  exact(zod _ _ _ _ (by simp)).trans rfl
 have s:W.cell? ⟨n+1+1+1+1+1+1+1+1+1,0,none⟩=some (.int .i64 0):=by
  rw[a,b];exact(zod _ _ _ _ (by simp)).trans rfl
 have Q:Below w.heap.size w W:=by rw[a];exact ze (ze (ze (ze (ze (ze (ze (ze (ze (ze (zof _ _))))))))))
 refine⟨?_,Q⟩;clear a Q b;have wf0:(Lit.int .i64 0).wf=true:=by decide
 have P:(Lit.int .i64 1000).wf=true:=by decide
 refine⟨⟨rfl,fun i d hd=>?_⟩,zW _ _,⟨rfl,fun i d hd=>?_⟩,⟨rfl,fun i d hd=>?_⟩,qw,⟨rfl,fun i d hd=>?_⟩,zhk s (by decide),zos _⟩
 ·match i,hd with
  |0,hd=>
   obtain rfl:_=d:=zoq hd;exact⟨_,0,rfl,⟨H,by simp[QSl.nil0]⟩,zhk y (by decide)⟩
 ·match i,hd with
  |0,hd=>
   obtain rfl:_=d:=zoq hd;exact⟨_,0,rfl,⟨q,wf0⟩,⟨f,wf0⟩,⟨k,wf0⟩,⟨m,fun _=>⟨rfl,rfl⟩⟩,⟨j,P⟩,qw⟩
 ·match i,hd with
  |0,hd=>
   obtain rfl:_=d:=zoq hd;refine⟨_,0,rfl,⟨g,fun _=>⟨rfl,rfl⟩⟩,⟨N,by simp[QSl.nil0]⟩,zW _ _,⟨rfl,fun i d hd=>?_⟩⟩
   match i,hd with
   |0,hd=>
    obtain rfl:_=d:=zoq hd;refine⟨_,0,rfl,⟨l,(by decide:(Lit.int .i64 1).wf=true)⟩,⟨M,wf0⟩,⟨G,wf0⟩,⟨x,wf0⟩,⟨t,by simp[QSl.nil0]⟩,⟨rfl,fun i d hd=>?_⟩⟩
    match i,hd with
    |0,hd=>
     obtain rfl:_=d:=zoq hd;exact⟨_,0,rfl,⟨D,by decide⟩,⟨J,by decide⟩,⟨u,by decide⟩,⟨h,by decide⟩⟩
    |1,hd=>
     obtain rfl:_=d:=zoq hd;exact⟨_,0,rfl,⟨B,by decide⟩,⟨I,by decide⟩,⟨E,by decide⟩,⟨C,by decide⟩⟩
    |2,hd=>
     obtain rfl:_=d:=zoq hd;exact⟨_,0,rfl,⟨o,by decide⟩,⟨L,by decide⟩,⟨c,by decide⟩,⟨e,by decide⟩⟩
 ·match i,hd with
  |0,hd=>
   obtain rfl:_=d:=zoq hd;exact⟨_,0,rfl,⟨A,by decide⟩,⟨O,wf0⟩,⟨K,fun _=>⟨rfl,rfl⟩⟩,⟨r,by decide⟩,⟨F,wf0⟩,qw⟩
def zgE(w:World)(e:Ending)(w':World):Prop:=∃d:PlanD,e=.returned d.v/\d.p=CP/\d.lie w'/\d.nil0/\d.small/\d.fits/\Below w.heap.size w w'
theorem zmg(w:World):Calls Tryz.prog 11 #[] w (zgE w):=by
 go_enter Tryz.func11,Tryz.ntmps11
 go_wp2;have h:=zgD w _ _ rfl rfl;exact bodyPost_ret (v:=(CD (w.heap.size+1+1) (w.heap.size+1+1+1) (w.heap.size+1+1+1+1) (w.heap.size+1+1+1+1+1) (w.heap.size+1+1+1+1+1+1) (w.heap.size+1+1+1+1+1+1+1) (w.heap.size+1+1+1+1+1+1+1+1) (w.heap.size+1+1+1+1+1+1+1+1+1)).v) (by simp[results,Tryz.results11,go_sem]) rfl ⟨_,rfl,rfl,h.1,CD.nil0 _ _ _ _ _ _ _ _,CD.small _ _ _ _ _ _ _ _,CD.fits _ _ _ _ _ _ _ _,h.2⟩
theorem zdo(w:World)(x y:Int)(b:(Lit.int .u8 x).wf=true)(c:(Lit.int .u8 y).wf=true)(T:TypeId):Has .u8 (w.alloc (.cells #[.int .u8 x,.int .u8 y] T)) (some ⟨w.heap.size,0,none⟩) 2 [x,y]:=by
 refine⟨rfl,?_,.inr ⟨w.heap.size,0,rfl,by simp,fun i hi=>?_⟩⟩
 ·intro n a;simp only[zoD,zoA,or_false]at a;rcases a with rfl|rfl
  ·exact b
  ·exact c
 ·have:i=0\/i=1:=by omega
  rcases this with rfl|rfl
  ·exact(zod _ _ _ _ rfl).trans rfl
  ·exact(zod _ _ _ _ rfl).trans rfl
def zjx(m:VMD)(_:InsD):Int × VMD:=(0,m)
theorem zlp:xJ 9 [] cProg=(0,0):=by decide+kernel
theorem zjy(t tb:QSl)(pa:Option Addr)(a:Nat):zaQ ⟨t,tb,⟨pa,2,a⟩,[7,9],3⟩ [] zjx cProg 46 0 1 VMD.zero=⟨0,0,45,0,[8,9]⟩:=by kernel_rfl
theorem zlq{q:ProgD}(d:q.slots=9)(h2:q.ts=[])(a:q.cs=cProg)(tb:QSl)(pa:Option Addr)(c:Nat):ziy ⟨q.tabs,tb,⟨pa,2,c⟩,[7,9],(3:Int).toNat⟩ q zjx true 3=⟨0,0,45,0,[8,9]⟩:=by
 have e:kR q true 2 3=(0,0):=by
  unfold kR;rw[d,h2,a,zlp];rfl
 have b:cProg.length=46:=zmz _ _ _;unfold ziy;dsimp only;rw[e,if_neg (by decide),h2,a,b]
 exact zjy _ _ _ _
theorem zmR(w:World):Calls Tryz.prog 4 #[] w (zw true w):=by
 have U:=hid (zmg w);go_enter Tryz.func4,Tryz.ntmps4
 go_wp2_with fail
 refine U.out.mono ?_;rintro e w1 ⟨d,rfl,O,R,_,hs,_,N⟩;have s:=hid (zmV d w1 O R hs);have y:=hid N;clear O R hs N U;go_wp2_with fail
 refine s.out.mono ?_;rintro e m ⟨q,rfl,V,E,T,S,X,M⟩;obtain⟨f,hW4⟩:∃f,f=(m.alloc (.cells #[.int .i64 q.slots,.slice q.tabs.a q.tabs.n q.tabs.c,.slice q.code.a q.code.n q.code.c] 44)).alloc (.cells #[.int .i64 0,.int .i64 0] 34):=⟨_,rfl⟩;obtain⟨pb,hpb⟩:∃b,b=m.heap.size:=⟨_,rfl⟩;obtain⟨fb,hfb⟩:∃b,b=m.heap.size+1:=⟨_,rfl⟩;have F:Below m.heap.size m f:=by rw[hW4];exact ze (ze (zof _ _))
 have k:f.heap[pb]?=some (.cells #[.int .i64 q.slots,.slice q.tabs.a q.tabs.n q.tabs.c,.slice q.code.a q.code.n q.code.c] 44 (0,0)):=by
  rw[hW4,hpb,Below.heap_alloc _ _ _ (by simp)]
  exact zK _ _ _
 have c0:=(zj k 0).trans (rfl:_=some (Value.int .i64 q.slots));have c1:=(zj k 1).trans (rfl:_=some (Value.slice q.tabs.a q.tabs.n q.tabs.c));have c2:=(zj k 2).trans (rfl:_=some (Value.slice q.code.a q.code.n q.code.c));have G:=(zoj.1 k).1;have f0:f.cell? ⟨fb,0,none⟩=some (.int .i64 0):=by rw[hW4,hfb];simp
 have J:=zog _ _ f0;have i:=hid (zh (zh y.out M) F);obtain⟨A,hW5⟩:∃A,A=f.alloc (.cells #[.int .u8 7,.int .u8 9] 5):=⟨_,rfl⟩;obtain⟨bb,hbb⟩:∃b,b=f.heap.size:=⟨_,rfl⟩;have K:Below f.heap.size f A:=by rw[hW5];exact ze (zof _ _)
 have P:Has .u8 A (some ⟨bb,0,none⟩) 2 [7,9]:=by rw[hW5,hbb];exact zdo f 7 9 (by decide) (by decide) _
 have h:=(S.step F).step K;have j:q.tabs.n=0:=by have:=h.t.1;rw[E]at this;exact this.symm
 have H:=hid (zn6 q zjx ⟨none,0,0⟩ ⟨some ⟨bb,0,none⟩,2,2⟩ [7,9] true 3 A h X P (by simp[QSl.nil0]) (zos _) (fun w' _=>by have:=zfo q.tabs.a q.tabs.n q.tabs.c w';rw[j,zoY rfl]at this;rw[j];exact this) (fun _ h0=>(znM (zhe h) h0).2 E))
 rw[zlq V E T]at H;have r:=hid (zh i.out K);have x:=hid hW4;have Q:=hid hpb;have Y:=hid hfb;have o:=hid hW5;have L:=hid hbb;clear hW4 hpb hfb hW5 hbb M F K k P h j V E T S X s y;dsimp only[ProgD.v]at*;go_upto_region 2 with fail
 rw[<-x.out,<-Y.out,<-Q.out];go_wp2_with fail
 rw[<-o.out,<-L.out];refine H.out.mono ?_;rintro e I ⟨v,rfl,⟨a,c,rfl,ha,_,_⟩,l⟩;dsimp only[List.length_nil,List.length_cons]at ha ⊢;have u:=hid (zh r.out l);have W:Hid (∀C D g,g=((I.alloc C).alloc D).heap.size->Calls Tryz.prog 13 #[.agg #[.int .i64 0,.slice a 2 c],.agg #[.int .i64 0,.slice (some ⟨g,0,none⟩) 2 2]] (((I.alloc C).alloc D).alloc (.cells #[.int .u8 8,.int .u8 9] 5)) (zw true (((I.alloc C).alloc D).alloc (.cells #[.int .u8 8,.int .u8 9] 5)))):=fun C D g Z=>by
  rw[Z];exact zee 0 c 2 (zs:=[8,9]) (ha.step (ze (ze (ze (zof _ _))))) (zdo _ 8 9 (by decide) (by decide) _)
 clear ha l H i r x Q Y o L c0 c1 c2 f0 G J;go_wp2_with fail
 refine(W.out _ _ _ (by simp)).mono ?_
 rintro e w4 ⟨rfl,B⟩;have i:=hid (zh (ze (ze (ze u.out))) B);clear B W u;go_wp2;go_ret;exact⟨rfl,i.out⟩
end Go.Proofs.YtdajaaondlekfaaGreat
