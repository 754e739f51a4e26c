import Derived.Test.YtdajaaondlekfaaGreatG9
import Derived.Test.YtdajaaondlekfaaGreatG1
import Derived.Test.YtdajaaondlekfaaGreatG21
import Derived.Test.YtdajaaondlekfaaGreatG7
import Derived.Test.YtdajaaondlekfaaGreatG17
import Derived.Deep.DeepCutAuto
import Derived.Deep.RegionHeld3
set_option maxHeartbeats 16000000
set_option maxRecDepth 20000
set_option linter.unusedSimpArgs false
namespace Go.Proofs.YtdajaaondlekfaaGreat
open Go.RowKit
@[reducible] def opV(o:OpD):Value:=.agg #[.int .i64 o.kind,.int .i64 o.r.h,.int .i64 o.r.f,.int .i64 o.head,.slice o.e.a o.e.n o.e.c]
structure AhU (g : Nat) (A : List Nat) (w : World) : Prop where
 cs : ∀ (i s : Nat), A[i]? = some s -> w.cell? ⟨g, i, none⟩ = some (.int .u64 (s : Int))
 fz : ∀ o, w.frozen? ⟨g, o, none⟩ = false
 lt : g < w.heap.size
theorem AhU.step{w w':World}{g:Nat}{A:List Nat}(h:AhU g A w)(b:Below w.heap.size w w'):AhU g A w':=
 ⟨fun i s hs=>za (h.cs i s hs) b,fun o=>(b.frozen (p:=⟨g,o,none⟩) h.lt).trans (h.fz o),zom h.lt b.size⟩
theorem AhU.but{w w':World}{g q:Nat}{A:List Nat}(h:AhU g A w)(b:But q w w')(a:g≠q):AhU g A w':=
 ⟨fun i s hs=>b.cell a (h.cs i s hs),fun o=>(b.frozen a h.lt).trans (h.fz o),zom h.lt b.size⟩
theorem AhU.set{g:Nat}{A:List Nat}{w:World}{j x:Nat}(h:AhU g A w)(b:A[j]?=some x)(s:Nat):AhU g (A.set j s) (w.setCell ⟨g,j,none⟩ (.int .u64 (s:Int))):=by
 refine⟨fun i y a=>?_,fun o=>?_,?_⟩
 ·rw[List.getElem?_set]at a;by_cases e:j=i
  ·subst e;rw[if_pos rfl,if_pos (zok.1 b).1]at a;cases a
   exact zot _ _ _ (h.cs j x b)
  ·rw[if_neg e]at a;exact zp (h.cs i y a) (by omega)
 ·simp only[World.frozen?_setCell];exact h.fz o
 ·simp only[zow];exact h.lt
@[reducible] def zb5(d:PlanD)(g m:Nat):Value:=.agg #[.slice d.heads.a d.heads.n d.heads.c,.slice d.mta.a d.mta.n d.mta.c,.slice d.states.a d.states.n d.states.c,.slice d.acts.a d.acts.n d.acts.c,.slice d.tabs.a d.tabs.n d.tabs.c,.slice d.nodes.a d.nodes.n d.nodes.c,.slice d.out.a d.out.n d.out.c,.slice (some ⟨g,0,none⟩) m m]
def zbT(g:Nat)(A:List Nat)(w:World)(e:Ending)(w':World):Prop:=e=.returned (.tuple #[])/\AhU g A w'/\But g w w'
theorem zbw(d:PlanD){g m:Nat}{A:List Nat}{w:World}(j s x:Nat)(ha:AhU g A w)(e:j<m)(a:A[j]?=some x)(hs:s<2^64)(b:x<2^64):
 Calls Tryz.prog 68 #[zb5 d g m,.int .i64 (j:Int),.int .u64 (s:Int)] w (zbT g (A.set j (x&&& s)) w):=by
 have h:Hid (∀o:Obj,zbT g (A.set j (x&&& s)) w (.returned (.tuple #[])) ((w.alloc o).setCell ⟨g,j,none⟩ (.int .u64 ((x&&& s:Nat):Int)))):=fun o=>⟨rfl,(ha.step (ze (zof _ _))).set a _,(But.of (ze (zof _ _)) (Nat.le_of_lt ha.lt)).trans set_but⟩
 have l:∀o,(w.alloc o).cell? ⟨g,j,none⟩=some (.int .u64 (x:Int)):=fun o=>za (ha.cs j x a) (ze (zof _ _))
 have hf:∀o,(w.alloc o).frozen? ⟨g,j,none⟩=false:=fun o=>(ha.step (ze (zof _ _))).fz j
 have i:¬g=w.heap.size:=by have:=ha.lt;omega
 have k:=kS x s b hs;have f:(j:Int)<(m:Int):=by omega
 have c:(0:Int)<=(j:Int):=by omega
 clear ha a e hs b;go_enter Tryz.func68,Tryz.ntmps68
 go_wp2;go_end0
 exact h.out _
def jT(q s:Nat)(o:POp)(w:World)(e:Ending)(w':World):Prop:=
 e=.returned (.bool (yr s o))/\But q w w'/\w'.cell? ⟨q,2,none⟩=some (.int .u64 (yN s o:Nat))/\w'.frozen? ⟨q,2,none⟩=false
theorem zhu(q s:Nat)(o:OpD)(w:World)(M:w.cell? ⟨q,2,none⟩=some (.int .u64 (s:Int)))(hf:w.frozen? ⟨q,2,none⟩=false)(hs:s<2^64)(H:zaZ o.p)(P:QRow 4 PushD.lie w o.e o.es):
 Calls Tryz.prog 188 #[.pointer (some ⟨q,0,none⟩),opV o] w (jT q s o.p w):=by
 obtain⟨kind,⟨f,y⟩,head,e,es⟩:=o;obtain⟨i,hW⟩:∃i,i=w.alloc (.cells #[.int .i64 kind,.int .i64 f,.int .i64 y,.int .i64 head,.slice e.a e.n e.c] 66):=⟨_,rfl⟩;obtain⟨b,hb⟩:∃b,b=w.heap.size:=⟨_,rfl⟩;have E:Below w.heap.size w i:=by rw[hW];exact ze (zof _ _)
 have B:q<w.heap.size:=zog w _ M;have W:q≠b:=by omega
 have c0:i.cell? ⟨b,0,none⟩=some (.int .i64 kind):=by rw[hW,hb];exact(zod _ _ _ _ rfl).trans rfl
 have c1:i.cell? ⟨b,1,none⟩=some (.int .i64 f):=by rw[hW,hb];exact(zod _ _ _ _ rfl).trans rfl
 have c3:i.cell? ⟨b,3,none⟩=some (.int .i64 head):=by rw[hW,hb];exact(zod _ _ _ _ rfl).trans rfl
 have c4:i.cell? ⟨b,4,none⟩=some (.slice e.a e.n e.c):=by rw[hW,hb];exact(zod _ _ _ _ rfl).trans rfl
 have z:=za M E;have Q:i.frozen? ⟨q,2,none⟩=false:=(E.frozen (p:=⟨q,2,none⟩) B).trans hf;have T:b<i.heap.size:=zog _ _ c0;have C:q<i.heap.size:=zog _ _ z;have m:Hid (∀w' v,Below i.heap.size i w'->v=yr s (OpD.p ⟨kind,⟨f,y⟩,head,e,es⟩)->yN s (OpD.p ⟨kind,⟨f,y⟩,head,e,es⟩)=s->jT q s (OpD.p ⟨kind,⟨f,y⟩,head,e,es⟩) w (.returned (.bool v)) w'):=fun w' v h L V=>by
  refine⟨by rw[L],But.of (zh E h) (Nat.le_of_lt B),?_,?_⟩
  ·rw[V];exact za z h
  ·exact(h.frozen (p:=⟨q,2,none⟩) C).trans Q
 have t:Hid (∀w',Below i.heap.size i w'->yr s (OpD.p ⟨kind,⟨f,y⟩,head,e,es⟩)=true->jT q s (OpD.p ⟨kind,⟨f,y⟩,head,e,es⟩) w (.returned (.bool true)) (w'.setCell ⟨q,2,none⟩ (.int .u64 (yN s (OpD.p ⟨kind,⟨f,y⟩,head,e,es⟩):Nat)))):=fun w' h L=>by
  refine⟨by rw[L],(But.of (zh E h) (Nat.le_of_lt B)).trans set_but,zot _ _ _ (za z h),?_⟩
  simp only[World.frozen?_setCell];exact(h.frozen (p:=⟨q,2,none⟩) C).trans Q
 have g:=hid (P.step PushD.keeps E);have r:=hid H;have A:=hid hs;have u:=hid hW;have x:=hid hb;have U:=H.kind;clear M hf hs H P hW hb E B;simp only[OpD.p]at U;rcases(show kind=1\/kind=2\/kind=3\/kind=4\/kind=5\/kind=6 by omega)with rfl|rfl|rfl|rfl|rfl|rfl
 ·have G:Hid (∀p:zq i,Calls Tryz.prog 152 #[.int .u64 (s:Int),.slice e.a e.n e.c] p.to fun q w'=>q=.returned (.bool (zL s es))/\Below p.to.heap.size p.to w'):=fun p=>zby s e es p.to A.out (g.out.step PushD.keeps p.h) (r.out.tree (.inl rfl)) (by have:=r.out.few (.inl rfl);have h2:=g.out.1;simp only[OpD.p]at this h2;omega)
  have F:Hid (∀w',Calls Tryz.prog 189 #[.int .u64 (s:Int),.int .i64 f] w' fun e k=>e=.returned (.bool (yc s f))/\k=w'):=fun w'=>qT s f A.out (r.out.ref (.inl rfl)) w'
  have D:Hid (yr s (OpD.p ⟨1,⟨f,y⟩,head,e,es⟩)=(zL s es&&yc s f)):=by show yr s _=_;unfold yr;rfl
  have S:=zm z;have O:=zm c1;have N:=zm c4;generalize zL s es=B1 at*;generalize yc s f=B2 at*;clear t r g;cases B1 with
  |true=>
   go_enter Tryz.func188,Tryz.ntmps188
   go_wp2_with fail
   rw[<-u.out,<-x.out];clear u x;haveI inhB:∀w:World,Inhabited (zq w):=fun w=>⟨⟨w,zof _ _⟩⟩
   refine zi (by kernel_rfl) (by kernel_rfl) ?_
   repeat (go_big_quiet_step (first|(go_at_call 152;exact zT _ (G.out _))|(go_at_call 189;exact zt _ (F.out _))))
   refine wpQuiet_nil ?_;intro wq l;obtain⟨⟨_,j⟩,d⟩:=l;subst d;go_wp2;go_ret;exact m.out _ _ j (by rw[D.out,Bool.true_and]) rfl
  |false=>
   go_enter Tryz.func188,Tryz.ntmps188
   go_wp2_with fail
   rw[<-u.out,<-x.out];clear u x;haveI inhB:∀w:World,Inhabited (zq w):=fun w=>⟨⟨w,zof _ _⟩⟩
   refine zi (by kernel_rfl) (by kernel_rfl) ?_
   repeat (go_big_quiet_step (first|(go_at_call 152;exact zT _ (G.out _))|(go_at_call 189;exact zt _ (F.out _))))
   refine wpQuiet_nil ?_;intro wq l;obtain⟨⟨_,j⟩,d⟩:=l;subst d;go_wp2;go_ret;exact m.out _ _ j (by rw[D.out,Bool.false_and]) rfl
 ·have J:Hid (∀w',Calls Tryz.prog 153 #[.int .u64 (s:Int),.int .i64 head] w' fun e k=>e=.returned (.int .u64 ((s|||zv head:Nat):Int))/\k=w'):=fun w'=>zdl s head A.out (r.out.head (.inl rfl)).1 (r.out.head (.inl rfl)).2 w'
  have K:Hid (∀w',Below i.heap.size i w'->jT q s (OpD.p ⟨2,⟨f,y⟩,head,e,es⟩) w (.returned (.bool true)) (w'.setCell ⟨q,2,none⟩ (.int .u64 ((s|||zv head:Nat):Int)))):=fun w' h=>t.out w' h rfl
  clear t m r g A c1 c4;generalize s|||zv head=R at*
  go_enter Tryz.func188,Tryz.ntmps188
  go_wp2_with fail
  rw[<-u.out,<-x.out];clear u x;go_region_with (go_at_call 153;refine(J.out _).mono ?_;rintro e w' ⟨rfl,rfl⟩)
  all_goals
   go_wp2;go_ret;exact K.out _ (zof _ _).drew
 ·have J:Hid (∀w',Calls Tryz.prog 154 #[.int .u64 (s:Int),.int .i64 head] w' fun e k=>e=.returned (.int .u64 ((s-(s&&& zv head):Nat):Int))/\k=w'):=fun w'=>za5 s head A.out (r.out.head (.inr (.inl rfl))).1 (r.out.head (.inr (.inl rfl))).2 w'
  have K:Hid (∀w',Below i.heap.size i w'->jT q s (OpD.p ⟨3,⟨f,y⟩,head,e,es⟩) w (.returned (.bool true)) (w'.setCell ⟨q,2,none⟩ (.int .u64 ((s-(s&&& zv head):Nat):Int)))):=fun w' h=>t.out w' h rfl
  clear t m r g A c1 c4;generalize s-(s&&& zv head)=R at*;go_enter Tryz.func188,Tryz.ntmps188
  go_wp2_with fail
  rw[<-u.out,<-x.out];clear u x;go_region_with (go_at_call 154;refine(J.out _).mono ?_;rintro e w' ⟨rfl,rfl⟩)
  all_goals
   go_wp2;go_ret;exact K.out _ (zof _ _).drew
 ·clear t r g A c1 c3 c4;go_enter Tryz.func188,Tryz.ntmps188
  go_wp2;go_ret;rw[<-u.out];exact m.out _ _ (zof _ _) rfl rfl
 ·have G:Hid (∀p:zq i,Calls Tryz.prog 152 #[.int .u64 (s:Int),.slice e.a e.n e.c] p.to fun q w'=>q=.returned (.bool (zL s es))/\Below p.to.heap.size p.to w'):=fun p=>zby s e es p.to A.out (g.out.step PushD.keeps p.h) (r.out.tree (.inr rfl)) (by have:=r.out.few (.inr rfl);have h2:=g.out.1;simp only[OpD.p]at this h2;omega)
  have D:Hid (yr s (OpD.p ⟨5,⟨f,y⟩,head,e,es⟩)=zL s es):=by show yr s _=_;unfold yr;rfl
  have S:=zm z;have N:=zm c4;generalize zL s es=B1 at*;clear t r g;go_enter Tryz.func188,Tryz.ntmps188
  go_wp2_with fail
  rw[<-u.out,<-x.out];clear u x;haveI inhB:∀w:World,Inhabited (zq w):=fun w=>⟨⟨w,zof _ _⟩⟩
  refine zi (by kernel_rfl) (by kernel_rfl) ?_
  repeat (go_big_quiet_step (first|(go_at_call 152;exact zT _ (G.out _))))
  refine wpQuiet_nil ?_;intro wq l;obtain⟨⟨_,j⟩,d⟩:=l;subst d;go_wp2;go_ret;exact m.out _ _ j D.out.symm rfl
 ·have F:Hid (∀w',Calls Tryz.prog 189 #[.int .u64 (s:Int),.int .i64 f] w' fun e k=>e=.returned (.bool (yc s f))/\k=w'):=fun w'=>qT s f A.out (r.out.ref (.inr rfl)) w'
  have I:Hid (∀w',Calls Tryz.prog 189 #[.int .u64 (s:Int),.int .i64 head] w' fun e k=>e=.returned (.bool (yc s head))/\k=w'):=fun w'=>qT s head A.out (r.out.head (.inr (.inr rfl))).2 w'
  have D:Hid (yr s (OpD.p ⟨6,⟨f,y⟩,head,e,es⟩)=(yc s f&&yc s head)):=by show yr s _=_;unfold yr;rfl
  have S:=zm z;have O:=zm c1;have X:=zm c3;generalize yc s f=B1 at*;generalize yc s head=B2 at*;clear t r g;cases B1 with
  |true=>
   go_enter Tryz.func188,Tryz.ntmps188
   go_wp2_with fail
   rw[<-u.out,<-x.out];clear u x;haveI inhB:∀w:World,Inhabited (zq w):=fun w=>⟨⟨w,zof _ _⟩⟩
   refine zi (by kernel_rfl) (by kernel_rfl) ?_
   repeat (go_big_quiet_step (first|(go_at_call 189;with_reducible exact zt _ (F.out _))|(go_at_call 189;exact zt _ (I.out _))))
   refine wpQuiet_nil ?_;intro wq l;obtain⟨⟨_,j⟩,d⟩:=l;subst d;go_wp2;go_ret;exact m.out _ _ j (by rw[D.out,Bool.true_and]) rfl
  |false=>
   go_enter Tryz.func188,Tryz.ntmps188
   go_wp2_with fail
   rw[<-u.out,<-x.out];clear u x;haveI inhB:∀w:World,Inhabited (zq w):=fun w=>⟨⟨w,zof _ _⟩⟩
   refine zi (by kernel_rfl) (by kernel_rfl) ?_
   repeat (go_big_quiet_step (first|(go_at_call 189;exact zt _ (F.out _))))
   refine wpQuiet_nil ?_;intro wq l;obtain⟨⟨_,j⟩,d⟩:=l;subst d;go_wp2;go_ret;exact m.out _ _ j (by rw[D.out,Bool.false_and]) rfl
def mx(a b:Int):Int:=if a<b then b else a
def j7(m:Int)(l:List Int):Int:=l.foldl mx m
theorem zdu{m:Int}{l:List Int}{i:Nat}(h:i<l.length):j7 m (l.take (i+1))=mx (j7 m (l.take i)) (l.getD i 0):=by
 unfold j7;rw[zoI,zoh h,List.foldl_append,zoi,zoh h];rfl
theorem zn2{w:World}{a:Option Addr}{n c:Nat}{zs:List Int}(j:Has .i64 w a n zs)(s:1<=n)(A:n<=10000):Calls Tryz.prog 35 #[.slice a n c] w fun e w'=>e=.returned (.int .i64 (j7 (zs.getD 0 0) (zs.take n)))/\w'=w:=by
 obtain⟨g,off,t,y,b⟩:=j.some (by omega)
 subst t;have f:=j.1;have h:=hid f;have c0:=b 0 (by omega)
 rw[Nat.add_zero]at c0;have x:¬(n:Int)<1:=by omega
 have u:0<n:=by omega
 have HC:=hid b;clear j f b;go_enter Tryz.func35,Tryz.ntmps35
 go_wp2;go_loopw [4,3] (fun k m wr=>∃i:Nat,1<=i/\i<=n/\k=.int .i64 i/\m=.int .i64 (j7 (zs.getD 0 0) (zs.take i))/\wr=w) (fun k _ _=>n-(intOf k).toNat)
 case atStart=>
  refine⟨1,zos _,s,rfl,?_,rfl⟩;rw[zdu (l:=zs) (i:=0) (by rw[h.out];omega)]
  simp[j7,mx]
 case round=>
  obtain⟨i,q,hi,rfl,rfl,rfl⟩:=hrel;by_cases d:i<n
  ·have o:(i:Int)<(n:Int):=by omega
   have B:=HC.out i d;have r:=hid (zdu (m:=zs.getD 0 0) (l:=zs) (i:=i) (by rw[h.out];exact d))
   generalize zs.getD i 0=z at*;generalize j7 (zs.getD 0 0) (zs.take i)=mm at*;go_wp2;go_roundw
   case rel=>exact⟨i+1,by omega,by omega,by go_num,by rw[r.out];rfl,by simp⟩
   case measure=>simp[intOf];omega
  ·have o:¬(i:Int)<(n:Int):=by omega
   obtain rfl:i=n:=by omega
   go_wp2;exact bodyPost_ret (v:=.int .i64 (j7 (zs.getD 0 0) (zs.take i))) (by simp[results,Tryz.results35,go_sem]) rfl ⟨rfl,rfl⟩
def wnD(d:PlanD)(a:Int):Int:=((d.al.getD a.toNat ActD.z).w.n:Int)
def xj(d:PlanD)(l:List Int):Int:=l.foldl (fun m a=>mx m (wnD d a)) 0
theorem zdv{d:PlanD}{l:List Int}{i:Nat}(h:i<l.length):xj d (l.take (i+1))=mx (xj d (l.take i)) (wnD d (l.getD i 0)):=by
 unfold xj;rw[zoI,zoh h,List.foldl_append,zoi,zoh h];rfl
def kN(d:PlanD)(t:TabD):ShapeD:=⟨(t.keys.n:Int),j7 (t.al.getD 0 0) t.al+1,xj d t.al⟩
structure zn3 (d : PlanD) (t : TabD) : Prop where
 one : 1 <= t.al.length
 ka : t.keys.n <= 10000
 na : t.al.length <= 10000
 ac : ∀ a ∈ t.al, ∃ k : Nat, a = (k : Int) /\ k < d.acts.n
structure zdw (d : PlanD) : Prop where
 ts : ∀ t ∈ d.ts, zn3 d t
 tn : d.tabs.n <= 1000
 an : d.acts.n <= 10000
 aw : ∀ x ∈ d.al, x.w.n <= 10000
theorem zms{a b c:Int}(d:0<=a/\a<=c)(h2:0<=b/\b<=c):0<=mx a b/\mx a b<=c:=by unfold mx;split<;>omega
theorem zny{d:PlanD}(h:∀x∈d.al,x.w.n<=10000)(a:Int):0<=wnD d a/\wnD d a<=10000:=by
 unfold wnD;rw[zoi];cases e:d.al[a.toNat]? with
 |none=>simp
 |some x=>
  have:=h x (zol e);simp only[zoC];omega
theorem zgY{d:PlanD}(h:∀x∈d.al,x.w.n<=10000):∀(l:List Int) (m:Int),0<=m/\m<=10000->0<=l.foldl (fun m a=>mx m (wnD d a)) m/\l.foldl (fun m a=>mx m (wnD d a)) m<=10000
 |[],_,hm=>hm
 |a::l,_,hm=>zgY h l _ (zms hm (zny h a))
theorem zgZ{c:Int}:∀(l:List Int) (m:Int),0<=m/\m<=c->(∀a∈l,0<=a/\a<=c)->0<=j7 m l/\j7 m l<=c
 |[],_,hm,_=>hm
 |a::l,_,hm,h=>zgZ l _ (zms hm (h a (by simp))) fun b hb=>h b (by simp[hb])
theorem zmZ{n:Int}(h:0<=n/\n<1000000):yt n:=by
 show(Lit.int .i64 n).wf=true;simp[Lit.wf,IntKind.min,IntKind.max,IntKind.bits,IntKind.signed];omega
def zd3(d:PlanD)(w:World)(e:Ending)(w':World):Prop:=∃s:QSl,e=.returned (.slice s.a s.n s.c)/\QRow 3 ShapeD.lie w' s (d.ts.map (kN d))/\s.nil0/\Below w.heap.size w w'
theorem zjR{d:PlanD}(h:zdw d){t:TabD}(c:t∈d.ts):(kN d t).wf/\0<=j7 (t.al.getD 0 0) t.al/\j7 (t.al.getD 0 0) t.al<=10000/\0<=xj d t.al/\xj d t.al<=10000:=by
 have hr:=h.ts t c;have b:0<=xj d t.al/\xj d t.al<=10000:=zgY h.aw t.al 0 (by omega)
 have ha:∀a∈t.al,0<=a/\a<=10000:=fun a ha=>by
  obtain⟨k,rfl,e⟩:=hr.ac a ha;have:=h.an;omega
 have h2:=zgZ t.al (t.al.getD 0 0) (by
  have:=hr.one;rw[zoi,zoh (by omega),zoC]
  exact ha _ (List.getElem_mem _)) ha
 have e:=hr.ka;exact⟨⟨zmZ (n:=((t.keys.n:Nat):Int)) (by omega),zmZ (n:=j7 (t.al.getD 0 0) t.al+1) (by omega),zmZ (n:=xj d t.al) (by omega)⟩,h2.1,h2.2,b.1,b.2⟩
structure ShR (W2 : World) (l : List ShapeD) (la : Option Addr) (lc : Nat) (w : World) : Prop where
 row : w.ownsRow W2.heap.size 41 3 (.slice la l.length lc) l.length (l.flatMap yK)
 bel : Below W2.heap.size W2 w
theorem ShR.step{a:World}{l:List ShapeD}{la:Option Addr}{lc:Nat}{w w':World}(h:ShR a l la lc w)(b:Below w.heap.size w w'):ShR a l la lc w':=⟨zZ h.row b,zh h.bel b⟩
theorem ShR.push{d:World}{l:List ShapeD}{la:Option Addr}{lc:Nat}{w:World}(h:ShR d l la lc w)(x:ShapeD)(n:l.length<=10000):
 ∃g cap w',(Builtin.append_ #[37,37] 37 #[.slice la l.length lc,.slice (some ⟨w.heap.size,0,none⟩) 1 1]).run Tryz.prog (w.alloc (.cells #[.int .i64 x.keys,.int .i64 x.acts,.int .i64 x.args] 41))=.ok (.slice (some ⟨g,0,none⟩) (l.length+1) cap) w'/\ShR d (l++[x]) (some ⟨g,0,none⟩) cap w':=by
 have b:Below w.heap.size w (w.alloc (.cells #[.int .i64 x.keys,.int .i64 x.acts,.int .i64 x.args] 41)):=ze (zof _ _);obtain⟨g,cap,w',a,e,i,_⟩:=za9 (w:=w.alloc (.cells #[.int .i64 x.keys,.int .i64 x.acts,.int .i64 x.args] 41)) (ad:=⟨w.heap.size,0,none⟩) (m:=1) (c:=1) (news:=yK x) 37 Tryz.underlying37 Tryz.ginfoShape rfl (by decide) (zZ h.row b) rfl (za8 (cs:=yK x)) (zcw x) (by decide) (by unfold maxLen;omega) (by omega) (zoz h.bel.size b.size)
 refine⟨g,cap,w',a,?_,(zh h.bel b).grown i (zoz h.bel.size b.size) fun k f=>(h.row.lt k f).1⟩
 have j:(l++[x]).flatMap yK=l.flatMap yK++yK x:=by simp
 rw[j,zor];exact e
theorem ShR.is{m:World}{d:PlanD}{la:Option Addr}{lc:Nat}{f w:World}(h:ShR m (d.ts.map (kN d)) la lc w)(hb:Below f.heap.size f m)(hr:zdw d):zd3 d f (.returned (.slice la (d.ts.map (kN d)).length lc)) w:=by
 refine⟨⟨la,(d.ts.map (kN d)).length,lc⟩,rfl,⟨rfl,fun i x c=>?_⟩,fun e=>?_,zh hb h.bel⟩
 ·have hi:=(zok.1 c).1;have hw:x.wf:=by
   obtain⟨t,o,rfl⟩:=zoJ.1 (zol c);exact(zjR hr o).1
  rcases h.row.2 with⟨e,_⟩|⟨g,cap,j,e,_⟩
  ·simp only[zox]at e;omega
  ·simp only[zox,true_and]at e;have a:=h.row;rw[e.1]at a;have l:∀r u,(yK x)[r]?=some u->w.cell? ⟨g,i*3+r,none⟩=some u:=fun r u n=>by
    have q:r<3:=(zok.1 n).1;rw[a.cellAt (i*3+r) (by omega)]
    exact zcv (cells:=yK) (k:=3) (fun _=>rfl) (S:=d.ts.map (kN d)) (i:=i) (r:=r) (s:=x) (u:=u) c n
   refine⟨g,0,e.1,⟨?_,hw.1⟩,⟨?_,hw.2.1⟩,⟨?_,hw.2.2⟩⟩
   ·rw[zoK];exact l 0 _ rfl
   ·rw[zoK];exact l 1 _ rfl
   ·rw[zoK];exact l 2 _ rfl
 ·have e:la=none:=e;rcases h.row.2 with⟨b,y⟩|⟨g,cap,j,b,_⟩
  ·simp only[zox]at b;exact⟨b.2.1,b.2.2⟩
  ·simp only[zox]at b;rw[e]at b;cases b.1
theorem zg0(d:PlanD)(w:World)(hl:d.lie w)(hr:zdw d):Calls Tryz.prog 19 #[d.v] w (zd3 d w):=by
 obtain⟨pb,hpb⟩:∃b,b=w.heap.size:=⟨_,rfl⟩;obtain⟨u,hW2⟩:∃u,u=w.alloc (.cells #[.slice d.heads.a d.heads.n d.heads.c,.slice d.mta.a d.mta.n d.mta.c,.slice d.states.a d.states.n d.states.c,.slice d.acts.a d.acts.n d.acts.c,.slice d.tabs.a d.tabs.n d.tabs.c,.slice d.nodes.a d.nodes.n d.nodes.c,.slice d.out.a d.out.n d.out.c] 29):=⟨_,rfl⟩;have b2:Below w.heap.size w u:=by rw[hW2];exact ze (zof _ _)
 have hP:u.heap[pb]?=some (.cells #[.slice d.heads.a d.heads.n d.heads.c,.slice d.mta.a d.mta.n d.mta.c,.slice d.states.a d.states.n d.states.c,.slice d.acts.a d.acts.n d.acts.c,.slice d.tabs.a d.tabs.n d.tabs.c,.slice d.nodes.a d.nodes.n d.nodes.c,.slice d.out.a d.out.n d.out.c] 29 (0,0)):=by rw[hW2,hpb];exact zK _ _ _
 have E:Hid (∀w',Below u.heap.size u w'->w'.heap[pb]?=some (.cells #[.slice d.heads.a d.heads.n d.heads.c,.slice d.mta.a d.mta.n d.mta.c,.slice d.states.a d.states.n d.states.c,.slice d.acts.a d.acts.n d.acts.c,.slice d.tabs.a d.tabs.n d.tabs.c,.slice d.nodes.a d.nodes.n d.nodes.c,.slice d.out.a d.out.n d.out.c] 29 (0,0))):=fun w' h=>(h.block pb (zoj.1 hP).1).trans hP
 have Y:Hid (∀w',Below u.heap.size u w'->d.lie w'):=fun w' h=>(hl.step b2).step h
 have c4:=(zj hP 4).trans (rfl:_=some (Value.slice d.tabs.a d.tabs.n d.tabs.c));have B:=(zoj.1 hP).1;have b7:=hid b2;have HR:=hid hr;have EW:=hid hW2;have EP:=hid hpb;have O:Hid (d.ts.length=d.tabs.n):=hl.ts.1;have d2:=hr.tn;clear hl hr hW2 hpb b2 hP;dsimp only[PlanD.v];go_enter Tryz.func19,Tryz.ntmps19
 go_upto_region 2 with fail
 rw[<-EW.out,<-EP.out];go_wp2;go_loopw [12,3,5,6,8] (fun k l _ _ _ wr=>∃i:Nat,i<=d.tabs.n/\k=.int .i64 i/\∃la lc,l=.slice la i lc/\Hid (ShR u ((d.ts.take i).map (kN d)) la lc wr)) (fun k _ _ _ _ _=>d.tabs.n-(intOf k).toNat)
 case atStart=>exact⟨0,zon _,rfl,none,0,rfl,⟨zoH _ _ _ _,zof _ _⟩⟩
 case round=>
  obtain⟨i,hi,rfl,la,lc,rfl,J⟩:=hrel;clear c4 B;by_cases b6:i<d.tabs.n
  ·have b3:(i:Int)<(d.tabs.n:Int):=by omega
   obtain⟨g,off,t,ea,ht,hp⟩:=zV (Y.out wr J.out.bel).ts b6;have hm:=zol ht;have W:=HR.out.ts t hm;obtain⟨⟨x0,_⟩,⟨x1,_⟩,⟨x2,_⟩,⟨x3,_⟩,⟨x4,_⟩,⟨x5,_⟩,_,M,_⟩:=hp;have b0:=zog _ _ x0;obtain⟨tb,htb⟩:∃b,b=wr.heap.size:=⟨_,rfl⟩;obtain⟨f,hW4⟩:∃f,f=wr.alloc (.cells #[.int .i64 t.kind,.slice t.keys.a t.keys.n t.keys.c,.slice t.acts.a t.acts.n t.acts.c,.int .i64 t.cap,.int .i64 t.dflt,.slice t.args.a t.args.n t.args.c] 69):=⟨_,rfl⟩;have b4:Below wr.heap.size wr f:=by rw[hW4];exact ze (zof _ _)
   have A:f.heap[tb]?=some (.cells #[.int .i64 t.kind,.slice t.keys.a t.keys.n t.keys.c,.slice t.acts.a t.acts.n t.acts.c,.int .i64 t.cap,.int .i64 t.dflt,.slice t.args.a t.args.n t.args.c] 69 (0,0)):=by rw[hW4,htb];exact zK _ _ _
   have t1:=(zj A 1).trans (rfl:_=some (Value.slice t.keys.a t.keys.n t.keys.c));have t2:=(zj A 2).trans (rfl:_=some (Value.slice t.acts.a t.acts.n t.acts.c));have F:=(zoj.1 A).1;have r:=M.step b4;have K:=M.1;have h1:=W.one;have h2:=W.na;have o:=hid (fun w' (b:Below f.heap.size f w')=>zn2 (c:=t.acts.c) (r.step b) (by omega) (by omega))
   have m:t.al.take t.acts.n=t.al:=by rw[<-K,List.take_length]
   rw[m]at o;obtain⟨b8,m0,m1,r0,r1⟩:=zjR HR.out hm;have B0:=hid (zof f.heap.size f);obtain⟨mm,hmm⟩:∃mm,mm=j7 (t.al.getD 0 0) t.al:=⟨_,rfl⟩;rw[<-hmm]at o m0 m1;obtain⟨q1,hq1⟩:∃q,q=mm+1:=⟨_,rfl⟩;have b1:Hid (kN d t=⟨(t.keys.n:Int),q1,xj d t.al⟩):=by rw[hq1,hmm];rfl
   have d1:IntKind.i64.wrap (mm+1)=q1:=by rw[hq1];exact zX _ (by omega) (by omega)
   have J4:=hid (J.out.step b4);have a4:=hid r;have b9:=hid hW4;have b5:=hid htb;have EA:=hid ea;have a9:=hid ht;have V:=hid K;have a8:=hid W.ac;have c6:=W.ka;have c4:=(zj (E.out wr J.out.bel) 4).trans (rfl:_=some (Value.slice d.tabs.a d.tabs.n d.tabs.c));rw[ea];rw[ea]at c4;have B:=(zoj.1 (E.out wr J.out.bel)).1;have c3:t.acts.n<=10000:=by omega
   clear ht hm W J M r hW4 htb A ea m hmm hq1 b4 b8 K h1 h2 r0 r1;go_upto_region 5 with fail
   rw[<-b9.out,<-b5.out];go_region_held3 (fun w'=>w'.cell? ⟨tb,1,none⟩=some (.slice t.keys.a t.keys.n t.keys.c)/\w'.cell? ⟨tb,2,none⟩=some (.slice t.acts.a t.acts.n t.acts.c)) (first|exact⟨t1,t2⟩|exact⟨za t1 B0.out.drew,za t2 B0.out.drew⟩|exact⟨za t1 (ze B0.out).drew,za t2 (ze B0.out).drew⟩|go_keep) (first
    |(go_at_call 35;refine(o.out _ (ze B0.out).drew).mono ?_;rintro e w5 ⟨rfl,rfl⟩)
    |(go_at_call 35;refine(o.out _ B0.out.drew).mono ?_;rintro e w5 ⟨rfl,rfl⟩))
   all_goals
    obtain⟨sb,hsb⟩:∃b,b=f.heap.size:=⟨_,rfl⟩;obtain⟨W5,hW5⟩:∃W5,W5=(f.alloc (.cells #[.int .i64 (t.keys.n:Int),.int .i64 q1,.int .i64 0] 41)).drew:=⟨_,rfl⟩;rw[<-hW5,<-hsb];have B5:Below f.heap.size f W5:=by rw[hW5];exact(ze (zof _ _)).drew
    have S:Hid (W5.heap[sb]?=some (.cells #[.int .i64 (t.keys.n:Int),.int .i64 q1,.int .i64 (xj d (t.al.take 0))] 41 (0,0))):=by show _=_;rw[hW5,hsb];exact zK _ _ _
    have u2:=za t2 B5;have T:=zom F B5.size;have X:=hid B5;have a3:=hid hsb;have c5:tb<sb:=by rw[hsb];exact F
    clear hW5 hsb B5 t1 t2 o x0 x1 x2 x3 x4 x5 b0 c4 B F;go_wp2;go_loopw [27,8] (fun k _ wz=>∃j:Nat,j<=t.acts.n/\k=.int .i64 j/\Hid (wz.heap[sb]?=some (.cells #[.int .i64 (t.keys.n:Int),.int .i64 q1,.int .i64 (xj d (t.al.take j))] 41 (0,0))/\Below f.heap.size f wz)) (fun k _ _=>t.acts.n-(intOf k).toNat)
    case atStart=>exact⟨0,zon _,rfl,S.out,X.out⟩
    case round=>
     obtain⟨j,hj,rfl,JJ⟩:=hrel;obtain⟨y,JB⟩:=JJ.out;clear u2 T S X;by_cases a1:j<t.acts.n
     ·have a6:(j:Int)<(t.acts.n:Int):=by omega
      obtain⟨g3,c2,P,d0,s⟩:=(a4.out.step JB).some (by omega)
      have N:j<t.al.length:=by rw[V.out];exact a1
      obtain⟨k,hk,a7⟩:=a8.out (t.al.getD j 0) (by rw[zoi,zoh N];exact List.getElem_mem _)
      have cj:=s j a1;rw[hk]at cj;have L:=zh J4.out.bel JB;obtain⟨ag,ao,x,H,a2,a0⟩:=zV (Y.out wr L).al a7;have cw:=a0.1.1;have c0:=zog _ _ cw;have Q:=E.out wr L;have p3:=(zj Q 3).trans (rfl:_=some (Value.slice d.acts.a d.acts.n d.acts.c));rw[H]at p3;have B:=(zoj.1 Q).1;have s2:=(zj y 2).trans (rfl:_=some (Value.int .i64 (xj d (t.al.take j))));have sf:wr.frozen? ⟨sb,2,none⟩=false:=by simp[World.frozen?,y]
      have a5:=(zoj.1 y).1;have c9:(k:Int)<(d.acts.n:Int):=by omega
      have R:xj d (t.al.take (j+1))=mx (xj d (t.al.take j)) (x.w.n:Int):=by
       rw[zdv N,hk];show mx _ ((d.al.getD k ActD.z).w.n:Int)=_;rw[zoi,a2];rfl
      have G:Hid ((wr.setCell ⟨sb,2,none⟩ (.int .i64 (mx (xj d (t.al.take j)) (x.w.n:Int)))).drew.heap[sb]?=some (.cells #[.int .i64 (t.keys.n:Int),.int .i64 q1,.int .i64 (xj d (t.al.take (j+1)))] 41 (0,0))/\Below f.heap.size f (wr.setCell ⟨sb,2,none⟩ (.int .i64 (mx (xj d (t.al.take j)) (x.w.n:Int)))).drew):=by
       refine⟨?_,(JB.setCell (p:=⟨sb,2,none⟩) (by show f.heap.size<=sb;rw[a3.out];exact zos _) _).drew⟩
       rw[R];have h9:(wr.setCell ⟨sb,2,none⟩ (.int .i64 (mx (xj d (t.al.take j)) (x.w.n:Int)))).heap[sb]?=some (.cells #[.int .i64 (t.keys.n:Int),.int .i64 q1,.int .i64 (mx (xj d (t.al.take j)) (x.w.n:Int))] 41 (0,0)):=by
        have:=yx y 2 (.int .i64 (mx (xj d (t.al.take j)) (x.w.n:Int)));simpa using this
       exact h9
      rw[P];have d3:=hid P;have c8:=hid H;have c1:wr.cell? ⟨ag,ao+k*2,none⟩=some (.slice x.w.a x.w.n x.w.c):=cw;clear s P hk L H a2 a0 Q R y JB JJ cw N;generalize xj d (t.al.take j)=ar at*;unfold mx at G;by_cases U:ar<(x.w.n:Int)
      ·rw[if_pos U]at G;go_wp2_with fail
       go_region
       all_goals
        go_wp2;go_roundw
        case rel=>exact⟨j+1,by omega,by go_num,G.out⟩
        case measure=>simp[intOf];omega
      ·rw[if_neg U]at G;go_wp2_with fail
       go_region
       all_goals
        go_wp2;go_roundw
        case rel=>exact⟨j+1,by omega,by go_num,G.out⟩
        case measure=>simp[intOf];omega
     ·have a6:¬(j:Int)<(t.acts.n:Int):=by omega
      obtain rfl:j=t.acts.n:=by omega
      have m:t.al.take t.acts.n=t.al:=by rw[<-V.out,List.take_length]
      rw[m]at y;have s0:=(zj y 0).trans (rfl:_=some (Value.int .i64 (t.keys.n:Int)));have s1:=(zj y 1).trans (rfl:_=some (Value.int .i64 q1));have s2:=(zj y 2).trans (rfl:_=some (Value.int .i64 (xj d t.al)));have a5:=(zoj.1 y).1;have I:((d.ts.take i).map (kN d)).length=i:=by rw[zoE,List.length_take,O.out];omega
      obtain⟨g4,Z,w9,D,SH⟩:=(J4.out.step JB).push ⟨(t.keys.n:Int),q1,xj d t.al⟩ (by rw[I];omega)
      rw[I]at D;have G:Hid (ShR u ((d.ts.take (i+1)).map (kN d)) (some ⟨g4,0,none⟩) Z w9):=by
       rw[zoI,a9.out,List.map_append];show ShR u ((d.ts.take i).map (kN d)++[kN d t]) _ _ _;rw[b1.out];exact SH
      clear y JB JJ SH m I;generalize xj d t.al=ar at*;go_wp2_with (at_builtin;refine jj rfl _ _ rfl rfl rfl D ?_)
      go_roundw
      case rel=>exact⟨i+1,by omega,by go_num,_,_,rfl,G.out⟩
      case measure=>simp[intOf];omega
  ·have b3:¬(i:Int)<(d.tabs.n:Int):=by omega
   obtain rfl:i=d.tabs.n:=by omega
   have e:d.ts.take d.tabs.n=d.ts:=by rw[<-O.out,List.take_length]
   have HJ:=J.out;rw[e]at HJ;have C:=hid (HJ.is b7.out HR.out);rw[zoE,O.out]at C;clear J HJ e;go_wp2;exact bodyPost_ret (v:=.slice la d.tabs.n lc) (by simp[results,Tryz.results19,go_sem]) rfl C.out
structure PPlan.little (p : PPlan) : Prop where
 hs : p.hs.length <= 50
 ms : p.ms.length <= 500
 ss : p.ss.length <= 50
 al : p.al.length <= 50
 ts : p.ts.length <= 50
 ns : p.ns.length <= 50
 os : p.os.length <= 500
 hw : ∀ x ∈ p.hs, x.length <= 500
 sc : ∀ x ∈ p.ss, x.cs.length <= 500
 aw : ∀ x ∈ p.al, x.ws.length <= 500 /\ x.os.length <= 50
 ae : ∀ x ∈ p.al, ∀ o ∈ x.os, o.es.length <= 500
 tl : ∀ x ∈ p.ts, x.ks.length <= 500 /\ x.al.length <= 500 /\ x.zs.length <= 500
 ne : ∀ x ∈ p.ns, x.es.length <= 500
def zkc(d:PlanD)(w:World)(e:Ending)(w':World):Prop:=∃b:Bool,e=.returned (.bool b)/\(b=false->d.p.little)/\Below w.heap.size w w'
theorem qd{α :Type}{L:List α}{k:Nat}{x: α}{P: α->Prop}(h:∀i y,i<k->L[i]?=some y->P y)(c:L[k]?=some x)(b:P x):∀i y,i<k+1->L[i]?=some y->P y:=by
 intro i y hi a;by_cases e:i=k
 ·subst e;rw[c]at a;cases a
  exact b
 ·exact h i y (by omega) a
theorem zlK{α β :Type}{L:List α}{n k:Nat}{P: β->Prop}{f: α->β}(c:L.length=n)(d:¬k<n)(h:∀i y,i<k->L[i]?=some y->P (f y)):∀x∈L.map f,P x:=by
 intro x a;obtain⟨y,b,rfl⟩:=zoJ.1 a;obtain⟨i,hi,rfl⟩:=zoR b;exact h i _ (by omega) (zoh hi)
theorem jv{α β :Type}{L:List α}{n:Nat}{P: β->Prop}{f: α->β}(a:L.length=n)(h:∀(i:Nat) (y: α),i<n->L[i]?=some y->P (f y)):∀x∈L.map f,P x:=
 zlK a (Nat.lt_irrefl _) h
theorem zh4{d:PlanD}{w:World}(c:d.lie w)(D:(d.heads.n:Int)<=50/\(d.mta.n:Int)<=500/\(d.states.n:Int)<=50/\(d.acts.n:Int)<=50/\(d.tabs.n:Int)<=50/\(d.nodes.n:Int)<=50/\(d.out.n:Int)<=500)
 (t:∀(i:Nat) (y:HeadD),i<d.heads.n->d.hs[i]?=some y->y.w.n<=500) (A:∀(i:Nat) (y:StateD),i<d.states.n->d.ss[i]?=some y->y.cases.n<=500)
 (q:∀(i:Nat) (y:ActD),i<d.acts.n->d.al[i]?=some y->(y.w.n<=500/\y.ops.n<=50)/\∀(i:Nat) (z:OpD),i<y.ops.n->y.os[i]?=some z->z.e.n<=500)
 (h7:∀(i:Nat) (y:TabD),i<d.tabs.n->d.ts[i]?=some y->y.keys.n<=500/\y.acts.n<=500/\y.args.n<=500) (u:∀(i:Nat) (y:NodeD),i<d.nodes.n->d.ns[i]?=some y->y.e.n<=500):d.p.little:=by
 have a:∀{α :Type} {k:Nat} {P: α->World->Nat->Nat->Prop} {s:QSl} {S:List α},QRow k P w s S->∀(i:Nat) (y: α),S[i]?=some y->∃g o,P y w g o:=fun h i y b=>by
  obtain⟨g,off,_,f⟩:=h.2 i y b;exact⟨g,_,f⟩
 refine⟨by simp[PlanD.p,c.hs.1];omega,by simp[PlanD.p,c.ms.1];omega,by simp[PlanD.p,c.ss.1];omega,by simp[PlanD.p,c.al.1];omega,by simp[PlanD.p,c.ts.1];omega,by simp[PlanD.p,c.ns.1];omega,by simp[PlanD.p,c.os.1];omega,?_,?_,?_,?_,?_,?_⟩
 ·refine jv c.hs.1 fun i y hi b=>?_
  obtain⟨g,o,f⟩:=a c.hs i y b;have:=t i y hi b;have e:=f.2.1;omega
 ·refine jv c.ss.1 fun i y hi b=>?_
  obtain⟨g,o,f⟩:=a c.ss i y b;have:=A i y hi b;have e:=f.2.2.2.2.2.1;show y.cs.length<=500;omega
 ·refine jv c.al.1 fun i y hi b=>?_
  obtain⟨g,o,f⟩:=a c.al i y b;have:=(q i y hi b).1;have e:=f.2.2.1.1;have x:=f.2.2.2.1;show y.ws.length<=500/\(y.os.map OpD.p).length<=50;rw[zoE];omega
 ·refine jv c.al.1 fun i y hi b=>?_
  obtain⟨g,o,f⟩:=a c.al i y b;have r:=(q i y hi b).2;refine jv f.2.2.2.1 fun j z B m=>?_
  obtain⟨C,F,l⟩:=a f.2.2.2 j z m;have:=r j z B m;have e:=l.2.2.2.2.2.1;show z.es.length<=500;omega
 ·refine jv c.ts.1 fun i y hi b=>?_
  obtain⟨g,o,f⟩:=a c.ts i y b;have:=h7 i y hi b;have e:=f.2.2.2.2.2.2.1.1;have x:=f.2.2.2.2.2.2.2.1.1;have E:=f.2.2.2.2.2.2.2.2.1;show y.ks.length<=500/\y.al.length<=500/\y.zs.length<=500;omega
 ·refine jv c.ns.1 fun i y hi b=>?_
  obtain⟨g,o,f⟩:=a c.ns i y b;have:=u i y hi b;have e:=f.2.2.2.2.2.1;show y.es.length<=500;omega
theorem zf0(d:PlanD)(w:World)(hl:d.lie w):Calls Tryz.prog 5 #[d.v] w (zkc d w):=by
 obtain⟨t,hW1⟩:∃t,t=w.alloc d.box:=⟨_,rfl⟩;have B:Hid (Below w.heap.size w t):=by rw[hW1];exact ze (zof _ _)
 have D:=hid (hl.step B.out);obtain⟨b0,hb0⟩:∃b0,b0=w.heap.size:=⟨_,rfl⟩;have c0:t.cell? ⟨b0,0,none⟩=some (.slice d.heads.a d.heads.n d.heads.c):=by rw[hW1,hb0];simp
 have c2:t.cell? ⟨b0,2,none⟩=some (.slice d.states.a d.states.n d.states.c):=by rw[hW1,hb0];simp
 have c3:t.cell? ⟨b0,3,none⟩=some (.slice d.acts.a d.acts.n d.acts.c):=by rw[hW1,hb0];simp
 have c4:t.cell? ⟨b0,4,none⟩=some (.slice d.tabs.a d.tabs.n d.tabs.c):=by rw[hW1,hb0];simp
 have c5:t.cell? ⟨b0,5,none⟩=some (.slice d.nodes.a d.nodes.n d.nodes.c):=by rw[hW1,hb0];simp
 have u:Hid (∀b:Bool,(b=false->d.p.little)->zkc d w (.returned (.bool b)) t):=fun b h=>⟨b,rfl,h,B.out⟩
 have L:Hid (∀b:Bool,(b=false->d.p.little)->zkc d w (.returned (.bool b)) (w.alloc d.box)):=by rw[<-hW1];exact u
 have HW:=hid hW1;have O:=hid hb0;clear hl hW1 hb0 B;by_cases M:(50:Int)<(d.heads.n:Int)\/(500:Int)<(d.mta.n:Int)\/(50:Int)<(d.states.n:Int)\/(50:Int)<(d.acts.n:Int)\/(50:Int)<(d.tabs.n:Int)\/(50:Int)<(d.nodes.n:Int)\/(500:Int)<(d.out.n:Int)
 ·clear c0 c2 c3 c4 c5 D;go_enter Tryz.func5,Tryz.ntmps5
  go_wp2
  all_goals (first|(exfalso;omega)|(go_ret;exact L.out true (fun h=>by cases h)))
 obtain⟨n0,n1,n2,n3,n4,n5,n6⟩:(d.heads.n:Int)<=50/\(d.mta.n:Int)<=500/\(d.states.n:Int)<=50/\(d.acts.n:Int)<=50/\(d.tabs.n:Int)<=50/\(d.nodes.n:Int)<=50/\(d.out.n:Int)<=500:=by omega
 have HN:Hid ((d.heads.n:Int)<=50/\(d.mta.n:Int)<=500/\(d.states.n:Int)<=50/\(d.acts.n:Int)<=50/\(d.tabs.n:Int)<=50/\(d.nodes.n:Int)<=50/\(d.out.n:Int)<=500):=⟨n0,n1,n2,n3,n4,n5,n6⟩;clear M;have e0:decide ((50:Int)<(d.heads.n:Int))=false:=zoX (by omega)
 have e1:decide ((500:Int)<(d.mta.n:Int))=false:=zoX (by omega)
 have e2:decide ((50:Int)<(d.states.n:Int))=false:=zoX (by omega)
 have e3:decide ((50:Int)<(d.acts.n:Int))=false:=zoX (by omega)
 have e4:decide ((50:Int)<(d.tabs.n:Int))=false:=zoX (by omega)
 have e5:decide ((50:Int)<(d.nodes.n:Int))=false:=zoX (by omega)
 have e6:decide ((500:Int)<(d.out.n:Int))=false:=zoX (by omega)
 go_enter Tryz.func5,Tryz.ntmps5
 go_wp2;rw[<-HW.out];rw[<-O.out];clear HW O n1 n6 L e0 e1 e2 e3 e4 e5 e6;go_loopw [3] (fun q wr=>∃k:Nat,k<=d.heads.n/\q=.int .i64 k/\Hid (∀(i:Nat) (y:HeadD),i<k->d.hs[i]?=some y->y.w.n<=500)/\Hid (t=wr)) (fun q _=>d.heads.n-(intOf q).toNat)
 case atStart=>exact⟨0,zon _,rfl,fun i _ hi=>absurd hi (zoN _),rfl⟩
 case round=>
  obtain⟨T,J,rfl,Q,s⟩:=hrel;obtain rfl:=s.out;clear s;by_cases j:T<d.heads.n
  ·have l:(T:Int)<(d.heads.n:Int):=by omega
   obtain⟨g,off,x,Y,f,o⟩:=zu D.out.hs j;have m:=hid f;clear f;have W:=Eq.mp (by rw[Nat.mul_one]) o.1.1
   clear o;by_cases r:(500:Int)<(x.w.n:Int)
   ·have f0:=zoY r;go_wp2;go_ret;exact u.out true (fun h=>by cases h)
   have f0:=zoX r;go_wp2;go_roundw
   case rel=>exact⟨T+1,by omega,by go_num,qd Q.out m.out (by omega),trivial⟩
   case measure=>simp[intOf];omega
  ·have l:¬(T:Int)<(d.heads.n:Int):=by omega
   go_wp2;go_loopw [4] (fun q wr=>∃k:Nat,k<=d.states.n/\q=.int .i64 k/\Hid (∀(i:Nat) (y:StateD),i<k->d.ss[i]?=some y->y.cases.n<=500)/\Hid (t=wr)) (fun q _=>d.states.n-(intOf q).toNat)
   case atStart=>exact⟨0,zon _,rfl,fun i _ hi=>absurd hi (zoN _),rfl⟩
   case round=>
    obtain⟨V,J,rfl,E,s⟩:=hrel;obtain rfl:=s.out;clear s;by_cases j:V<d.states.n
    ·have l:(V:Int)<(d.states.n:Int):=by omega
     obtain⟨g,off,x,Y,f,o⟩:=zu D.out.ss j;have m:=hid f;clear f;have W:=o.2.2.2.1.1;clear o;by_cases r:(500:Int)<(x.cases.n:Int)
     ·have f0:=zoY r;go_wp2;go_ret;exact u.out true (fun h=>by cases h)
     have f0:=zoX r;go_wp2;go_roundw
     case rel=>exact⟨V+1,by omega,by go_num,qd E.out m.out (by omega),trivial⟩
     case measure=>simp[intOf];omega
    ·have l:¬(V:Int)<(d.states.n:Int):=by omega
     go_wp2;go_loopw [5] (fun q wr=>∃k:Nat,k<=d.acts.n/\q=.int .i64 k/\Hid (∀(i:Nat) (y:ActD),i<k->d.al[i]?=some y->(y.w.n<=500/\y.ops.n<=50)/\∀(i:Nat) (z:OpD),i<y.ops.n->y.os[i]?=some z->z.e.n<=500)/\Hid (t=wr)) (fun q _=>d.acts.n-(intOf q).toNat)
     case atStart=>exact⟨0,zon _,rfl,fun i _ hi=>absurd hi (zoN _),rfl⟩
     case round=>
      obtain⟨R,J,rfl,G,s⟩:=hrel;obtain rfl:=s.out;clear s;by_cases j:R<d.acts.n
      ·have l:(R:Int)<(d.acts.n:Int):=by omega
       obtain⟨g,off,x,Y,f,o⟩:=zu D.out.al j;have m:=hid f;clear f;have W:=o.1.1;have q1:=o.2.1.1;have HX:=hid o.2.2.2;clear o;by_cases r:(500:Int)<(x.w.n:Int)
       ·have f0:=zoY r;go_wp2;go_ret;exact u.out true (fun h=>by cases h)
       have f0:=zoX r;by_cases P:(50:Int)<(x.ops.n:Int)
       ·have f1:=zoY P;go_wp2;go_ret;exact u.out true (fun h=>by cases h)
       have f1:=zoX P;go_wp2;go_loopw [6] (fun q wr=>∃k:Nat,k<=x.ops.n/\q=.int .i64 k/\Hid (∀(i:Nat) (y:OpD),i<k->x.os[i]?=some y->y.e.n<=500)/\Hid (t=wr)) (fun q _=>x.ops.n-(intOf q).toNat)
       case atStart=>exact⟨0,zon _,rfl,fun i _ hi=>absurd hi (zoN _),rfl⟩
       case round=>
        obtain⟨S,J,rfl,I,s⟩:=hrel;obtain rfl:=s.out;clear s;by_cases j:S<x.ops.n
        ·have l:(S:Int)<(x.ops.n:Int):=by omega
         obtain⟨Z,a0,x2,a1,C,F⟩:=zu HX.out j;have K:=hid C;clear C;have q2:=F.2.2.2.2.1.1;clear F;by_cases r:(500:Int)<(x2.e.n:Int)
         ·have f0:=zoY r;go_wp2;go_ret;exact u.out true (fun h=>by cases h)
         have f0:=zoX r;go_wp2;go_roundw
         case rel=>exact⟨S+1,by omega,by go_num,qd I.out K.out (by omega),trivial⟩
         case measure=>simp[intOf];omega
        ·have l:¬(S:Int)<(x.ops.n:Int):=by omega
         go_wp2;go_roundw
         case rel=>exact⟨R+1,by omega,by go_num,qd G.out m.out ⟨⟨by omega,by omega⟩,fun i z hi hz=>I.out i z (by omega) hz⟩,trivial⟩
         case measure=>simp[intOf];omega
      ·have l:¬(R:Int)<(d.acts.n:Int):=by omega
       go_wp2;go_loopw [7] (fun q wr=>∃k:Nat,k<=d.tabs.n/\q=.int .i64 k/\Hid (∀(i:Nat) (y:TabD),i<k->d.ts[i]?=some y->y.keys.n<=500/\y.acts.n<=500/\y.args.n<=500)/\Hid (t=wr)) (fun q _=>d.tabs.n-(intOf q).toNat)
       case atStart=>exact⟨0,zon _,rfl,fun i _ hi=>absurd hi (zoN _),rfl⟩
       case round=>
        obtain⟨U,J,rfl,H,s⟩:=hrel;obtain rfl:=s.out;clear s;by_cases j:U<d.tabs.n
        ·have l:(U:Int)<(d.tabs.n:Int):=by omega
         obtain⟨g,off,x,Y,f,o⟩:=zu D.out.ts j;have m:=hid f;clear f;have W:=o.2.1.1;have q1:=o.2.2.1.1;have q2:=o.2.2.2.2.2.1.1;clear o;by_cases r:(500:Int)<(x.keys.n:Int)
         ·have f0:=zoY r;go_wp2;go_ret;exact u.out true (fun h=>by cases h)
         have f0:=zoX r;by_cases P:(500:Int)<(x.acts.n:Int)
         ·have f1:=zoY P;go_wp2;go_ret;exact u.out true (fun h=>by cases h)
         have f1:=zoX P;by_cases Z:(500:Int)<(x.args.n:Int)
         ·have f2:=zoY Z;go_wp2;go_ret;exact u.out true (fun h=>by cases h)
         have f2:=zoX Z;go_wp2;go_roundw
         case rel=>exact⟨U+1,by omega,by go_num,qd H.out m.out ⟨by omega,by omega,by omega⟩,trivial⟩
         case measure=>simp[intOf];omega
        ·have l:¬(U:Int)<(d.tabs.n:Int):=by omega
         go_wp2;go_loopw [8] (fun q wr=>∃k:Nat,k<=d.nodes.n/\q=.int .i64 k/\Hid (∀(i:Nat) (y:NodeD),i<k->d.ns[i]?=some y->y.e.n<=500)/\Hid (t=wr)) (fun q _=>d.nodes.n-(intOf q).toNat)
         case atStart=>exact⟨0,zon _,rfl,fun i _ hi=>absurd hi (zoN _),rfl⟩
         case round=>
          obtain⟨X,J,rfl,N,s⟩:=hrel;obtain rfl:=s.out;clear s;by_cases j:X<d.nodes.n
          ·have l:(X:Int)<(d.nodes.n:Int):=by omega
           obtain⟨g,off,x,Y,f,o⟩:=zu D.out.ns j;have m:=hid f;clear f;have W:=o.2.2.1.1;clear o;by_cases r:(500:Int)<(x.e.n:Int)
           ·have f0:=zoY r;go_wp2;go_ret;exact u.out true (fun h=>by cases h)
           have f0:=zoX r;go_wp2;go_roundw
           case rel=>exact⟨X+1,by omega,by go_num,qd N.out m.out (by omega),trivial⟩
           case measure=>simp[intOf];omega
          ·have l:¬(X:Int)<(d.nodes.n:Int):=by omega
           go_wp2;go_ret;exact u.out false fun _=>zh4 D.out HN.out (fun i y hi A=>Q.out i y (by omega) A) (fun i y hi A=>E.out i y (by omega) A) (fun i y hi A=>G.out i y (by omega) A) (fun i y hi A=>H.out i y (by omega) A) (fun i y hi A=>N.out i y (by omega) A)
theorem zbk{d:PlanD}{w:World}(j:d.lie w)(h:d.p.little):d.small:=by
 have a:∀{α β :Type} {L:List α} {f: α->β} {x: α},x∈L->f x∈L.map f:=fun c=>zoJ.2 ⟨_,c,rfl⟩
 refine⟨?_,fun x c=>?_,fun t k=>?_,?_⟩
 ·have:=h.al;simp[PlanD.p,j.al.1]at this;omega
 ·obtain⟨i,hi,rfl⟩:=zoR c;obtain⟨g,o,_,b⟩:=j.al.2 i _ (zoh hi);have:=(h.aw _ (a c)).1;have e:=b.2.2.1.1;have:(d.al[i].p.ws).length=d.al[i].ws.length:=rfl;omega
 ·obtain⟨i,hi,rfl⟩:=zoR k;obtain⟨g,o,_,b⟩:=j.ts.2 i _ (zoh hi);have n:=h.tl _ (a k);have e:=b.2.2.2.2.2.2.1.1;have l:=b.2.2.2.2.2.2.2.1.1;have q:=b.2.2.2.2.2.2.2.2.1;have f1:(d.ts[i].p.ks).length=d.ts[i].ks.length:=rfl;have f2:(d.ts[i].p.al).length=d.ts[i].al.length:=rfl;have m:(d.ts[i].p.zs).length=d.ts[i].zs.length:=rfl;omega
 ·have:=h.os;simp[PlanD.p,j.os.1]at this;omega
end Go.Proofs.YtdajaaondlekfaaGreat
