import Derived.Test.YtbmcgbmegcpgnaaGreatVZWr2
import Derived.Laws.EntriesVeiled
set_option maxHeartbeats 4000000
set_option maxRecDepth 20000
set_option linter.unusedSimpArgs false
namespace Go.Proofs.YtbmcgbmegcpgnaaGreat
open Go.RowKit
theorem zd{w:World}{b:Nat}{cs:Array Value}{T:TypeId}{f:Nat × Nat}(h:w.heap[b]?=some (.cells cs T f))(i:Nat):w.cell? ⟨b,i,none⟩=cs[i]?:=by simp[World.cell?,h]
theorem zpw(w:World)(cs:Array Value)(T:TypeId):(w.alloc (.cells cs T)).heap[w.heap.size]?=some (.cells cs T (0,0)):=heap_alloc_new w _
theorem Wr.pl{B p:Nat}{bs:List Int}{w:World}(h:Wr B p bs w):p<w.heap.size:=h.at.elim fun _ ⟨_,_,_,h,_⟩=>h
theorem Wr.bl{B p:Nat}{bs:List Int}{w:World}(h:Wr B p bs w):B<=w.heap.size:=by have:=h.pl;have:=h.low;omega
def zoZ(x:RefD):List Int:=zk x.h++zk x.f
def zpi(x:PushD):List Int:=zk x.op++(if x.op=1 then y8 x.n.toNat else if x.op=2 then zoZ x.r else[])
def zpc(es:List PushD):List Int:=zk es.length++es.flatMap zpi
theorem zp4(B p b:Nat)(bs:List Int)(x y:Int)(w:World)(hb:b=w.heap.size)(d:wfI x)(f:wfI y)(h:Wr B p bs w)(c:(bs++(zk x++zk y)).length<=9000000):
 Calls Tryz.prog 102 #[.pointer (some ⟨p,0,none⟩),.slice (some ⟨b,0,none⟩) 2 2] (w.alloc (.cells #[.int .i64 x,.int .i64 y] 3)) (km B p (bs++(zk x++zk y)) (w.alloc (.cells #[.int .i64 x,.int .i64 y] 3))):=by
 subst hb;have e:([x,y]:List Int).flatMap zk=zk x++zk y:=by simp
 have:=zr2 B p w.heap.size 2 bs [x,y] (w.alloc (.cells #[.int .i64 x,.int .i64 y] 3)) (h.step (ze (zof _ _))) (zpw _ _ _) (by have:=h.pl;omega) (by intro n a;simp only[zoD,zoA,or_false]at a;rcases a with rfl|rfl;exact d;exact f) (by simp) (by rw[e];exact c)
 rw[e]at this;exact this
theorem zqi(B p:Nat)(bs:List Int)(x:RefD)(w:World)(g:wfI x.h/\wfI x.f)(h:Wr B p bs w)(j:(bs++zoZ x).length<=9000000):
 Calls Tryz.prog 103 #[.pointer (some ⟨p,0,none⟩),.agg #[.int .i64 x.h,.int .i64 x.f]] w (km B p (bs++zoZ x) w):=by
 have a:Below w.heap.size w (w.alloc (.cells #[.int .i64 x.h,.int .i64 x.f] 48)):=ze (zof _ _);have i:=hid (zp4 B p (w.heap.size+1) bs x.h x.f (w.alloc (.cells #[.int .i64 x.h,.int .i64 x.f] 48)) (by simp) g.1 g.2 (h.step a) j)
 have HD:Hid (∀w',Wr B p (bs++zoZ x) w'->Below B ((w.alloc (.cells #[.int .i64 x.h,.int .i64 x.f] 48)).alloc (.cells #[.int .i64 x.h,.int .i64 x.f] 3)) w'->Fram p ((w.alloc (.cells #[.int .i64 x.h,.int .i64 x.f] 48)).alloc (.cells #[.int .i64 x.h,.int .i64 x.f] 3)) w'->km B p (bs++zoZ x) w (.returned (.tuple #[])) w'):=fun w' d c b=>⟨rfl,d,(((ze a).mono h.bl).trans c),(Fram.below (ze a)).trans b⟩
 clear h j g a;go_enter Tryz.func103,Tryz.ntmps103
 go_wp2_with fail
 refine i.out.mono ?_;rintro e l ⟨rfl,d,c,b⟩;have k:=hid (HD.out l d c b);clear d c b i HD;go_wp2;go_end0
 exact k.out
theorem zuB(B p:Nat)(bs:List Int)(x:PushD)(w:World)(A:wfI x.op/\wfI x.r.h/\wfI x.r.f/\wfU x.n)(h:Wr B p bs w)(H:(bs++zpi x).length<=9000000):
 Calls Tryz.prog 144 #[.pointer (some ⟨p,0,none⟩),.agg #[.int .i64 x.op,.int .i64 x.r.h,.int .i64 x.r.f,.int .u64 x.n]] w (km B p (bs++zpi x) w):=by
 have g:Below w.heap.size w (w.alloc (.cells #[.int .i64 x.op,.int .i64 x.r.h,.int .i64 x.r.f,.int .u64 x.n] 144)):=ze (zof _ _);have K:=bounds_u64 A.2.2.2;obtain⟨N,hN0⟩:∃N:Nat,x.n=N:=⟨x.n.toNat,by omega⟩
 have J:=hid hN0;have D:N<18446744073709551616:=by omega
 clear hN0;have m:=hid (kn B p bs x.op _ A.1 (h.step g) (by rw[zpi,<-List.append_assoc,List.length_append]at H;omega))
 have s:=zpw w #[.int .i64 x.op,.int .i64 x.r.h,.int .i64 x.r.f,.int .u64 x.n] 144;have G:w.heap.size≠p:=by have:=h.pl;omega
 have HD:Hid (∀a,Wr B p (bs++zk x.op) a->Below B (w.alloc (.cells #[.int .i64 x.op,.int .i64 x.r.h,.int .i64 x.r.f,.int .u64 x.n] 144)) a->Fram p (w.alloc (.cells #[.int .i64 x.op,.int .i64 x.r.h,.int .i64 x.r.f,.int .u64 x.n] 144)) a->Below B w a/\Fram p w a/\a.cell? ⟨w.heap.size,0,none⟩=some (.int .i64 x.op)/\a.cell? ⟨w.heap.size,1,none⟩=some (.int .i64 x.r.h)/\a.cell? ⟨w.heap.size,2,none⟩=some (.int .i64 x.r.f)/\a.cell? ⟨w.heap.size,3,none⟩=some (.int .u64 x.n)):=fun a b d c=>by
  have y:=zd (c.2 _ _ _ _ G (by decide) s)
  exact⟨(g.mono h.bl).trans d,(Fram.below g).trans c,y 0,y 1,y 2,y 3⟩
 have C:=hid H;have I:=hid A;clear h H A g s;by_cases i:x.op=1
 ·have L:(x.op==1)=true:=by simpa using i
  have es:zpi x=zk x.op++y8 N:=by unfold zpi;rw[if_pos i,J.out,zov]
  rw[es]at C ⊢;clear i es;go_enter Tryz.func144,Tryz.ntmps144
  go_wp2_with fail
  refine m.out.mono ?_;rintro e a ⟨rfl,b,d,c⟩;obtain⟨j,f1,c0,c1,c2,c3⟩:=HD.out a b d c;rw[J.out]at c3;have t:=hid (zp9 B p _ N a D b (by rw[List.append_assoc];exact C.out))
  have E:=hid j;have F:=hid f1;clear b d c j f1 m HD;go_wp2_with fail
  refine t.out.mono ?_;rintro e w2 ⟨rfl,k,u,q⟩;rw[List.append_assoc]at k;have o:Hid (km B p (bs++(zk x.op++y8 N)) w (.returned (.tuple #[])) w2):=⟨rfl,k,E.out.trans u,F.out.trans q⟩;clear k u q t;go_wp2;go_end0
  exact o.out
 have L:(x.op==1)=false:=by simpa using i
 by_cases l:x.op=2
 ·have M:(x.op==2)=true:=by simpa using l
  have es:zpi x=zk x.op++zoZ x.r:=by unfold zpi;rw[if_neg i,if_pos l]
  rw[es]at C ⊢;clear i l es;go_enter Tryz.func144,Tryz.ntmps144
  go_wp2_with fail
  refine m.out.mono ?_;rintro e a ⟨rfl,b,d,c⟩;obtain⟨j,f1,c0,c1,c2,c3⟩:=HD.out a b d c;have t:=hid (zqi B p _ x.r a ⟨I.out.2.1,I.out.2.2.1⟩ b (by rw[List.append_assoc];exact C.out))
  have E:=hid j;have F:=hid f1;clear b d c j f1 m HD;go_wp2_with fail
  refine t.out.mono ?_;rintro e w2 ⟨rfl,k,u,q⟩;rw[List.append_assoc]at k;have o:Hid (km B p (bs++(zk x.op++zoZ x.r)) w (.returned (.tuple #[])) w2):=⟨rfl,k,E.out.trans u,F.out.trans q⟩;clear k u q t;go_wp2;go_end0
  exact o.out
 ·have M:(x.op==2)=false:=by simpa using l
  have es:zpi x=zk x.op:=by unfold zpi;rw[if_neg i,if_neg l,List.append_nil]
  rw[es];clear i l es;go_enter Tryz.func144,Tryz.ntmps144
  go_wp2_with fail
  refine m.out.mono ?_;rintro e a ⟨rfl,b,d,c⟩;obtain⟨j,f1,c0,c1,c2,c3⟩:=HD.out a b d c;have o:Hid (km B p (bs++zk x.op) w (.returned (.tuple #[])) a):=⟨rfl,b,j,f1⟩;clear b d c j f1 m HD;go_wp2;go_end0
  exact o.out
theorem zrL(b:World)(p:Nat)(bs:List Int)(s:QSl)(es:List PushD)(w:World)(h:Wr b.heap.size p bs w)(d:Below b.heap.size b w)(f:QRow 4 PushD.lie b s es)(t:s.n<=100000)(i:(bs++zpc es).length<=9000000):
 Calls Tryz.prog 108 #[.pointer (some ⟨p,0,none⟩),.slice s.a s.n s.c] w (km b.heap.size p (bs++zpc es) w):=by
 have e:zpc es=zk (s.n:Int)++es.flatMap zpi:=by unfold zpc;rw[f.1]
 rw[e]at i ⊢;have j:=hid (zrf b p _ bs s es zpi w rfl h d f t i (fun x l cs w' r _ k=>zuB _ p cs x w' (kPush.inns f x l) r k))
 have m:∀(fn:Fn) (first cap:Array Value) (w:World),(Instr.makeFunc fn first cap).run Tryz.prog w=.ok (.func fn first cap) w:=fun _ _ _ _=>rfl
 clear h d f i e;go_enter Tryz.func108,Tryz.ntmps108
 go_wp2_with fail
 refine j.out.mono ?_;rintro e u g;have q:=hid g;have o:=g.1;subst o;clear g j;go_wp2;go_end0
 exact q.out
end Go.Proofs.YtbmcgbmegcpgnaaGreat
