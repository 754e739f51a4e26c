import Derived.Test.YtbmcgbmegcpgnaaGreatG6
set_option maxHeartbeats 4000000
set_option maxRecDepth 20000
set_option linter.unusedSimpArgs false
namespace Go.Proofs.YtbmcgbmegcpgnaaGreat
open Go.RowKit
structure PPlan.little (p : PPlan) : Prop where
 hs : p.hs.length <= 50
 ms : p.ms.length <= 500
 ss : p.ss.length <= 50
 al : p.al.length <= 50
 ts : p.ts.length <= 50
 ns : p.ns.length <= 50
 os : p.os.length <= 500
 hw : ∀ x ∈ p.hs, x.length <= 500
 sc : ∀ x ∈ p.ss, x.cs.length <= 500
 aw : ∀ x ∈ p.al, x.ws.length <= 500 /\ x.os.length <= 50
 ae : ∀ x ∈ p.al, ∀ o ∈ x.os, o.es.length <= 500
 tl : ∀ x ∈ p.ts, x.ks.length <= 500 /\ x.al.length <= 500 /\ x.zs.length <= 500
 ne : ∀ x ∈ p.ns, x.es.length <= 500
structure PPlan.mid (p : PPlan) : Prop where
 hs : p.hs.length <= 10000
 ms : p.ms.length <= 10000
 ss : p.ss.length <= 10000
 al : p.al.length <= 10000
 ts : p.ts.length <= 10000
 ns : p.ns.length <= 10000
 os : p.os.length <= 10000
 hw : ∀ x ∈ p.hs, x.length <= 10000
 sc : ∀ x ∈ p.ss, x.cs.length <= 10000
 aw : ∀ x ∈ p.al, x.ws.length <= 10000 /\ x.os.length <= 10000
 ae : ∀ x ∈ p.al, ∀ o ∈ x.os, o.es.length <= 10000
 tl : ∀ x ∈ p.ts, x.ks.length <= 10000 /\ x.al.length <= 10000 /\ x.zs.length <= 10000
 ne : ∀ x ∈ p.ns, x.es.length <= 10000
theorem PPlan.little.mid{p:PPlan}(h:p.little):p.mid:=
 ⟨zoz h.hs (by decide),zoz h.ms (by decide),zoz h.ss (by decide),zoz h.al (by decide),zoz h.ts (by decide),zoz h.ns (by decide),zoz h.os (by decide),fun x a=>zoz (h.hw x a) (by decide),fun x a=>zoz (h.sc x a) (by decide),fun x a=>⟨zoz (h.aw x a).1 (by decide),zoz (h.aw x a).2 (by decide)⟩,fun x a o b=>zoz (h.ae x a o b) (by decide),fun x a=>⟨zoz (h.tl x a).1 (by decide),zoz (h.tl x a).2.1 (by decide),zoz (h.tl x a).2.2 (by decide)⟩,fun x a=>zoz (h.ne x a) (by decide)⟩
def zkc(d:PlanD)(w:World)(e:Ending)(w':World):Prop:=∃b:Bool,e=.returned (.bool b)/\(b=false->d.p.little)/\Below w.heap.size w w'
theorem qd{α :Type}{L:List α}{k:Nat}{x: α}{P: α->Prop}(h:∀i y,i<k->L[i]?=some y->P y)(c:L[k]?=some x)(b:P x):∀i y,i<k+1->L[i]?=some y->P y:=by
 intro i y hi a;by_cases e:i=k
 ·subst e;rw[c]at a;cases a
  exact b
 ·exact h i y (by omega) a
theorem zlK{α β :Type}{L:List α}{n k:Nat}{P: β->Prop}{f: α->β}(c:L.length=n)(d:¬k<n)(h:∀i y,i<k->L[i]?=some y->P (f y)):∀x∈L.map f,P x:=by
 intro x a;obtain⟨y,b,rfl⟩:=zoJ.1 a;obtain⟨i,hi,rfl⟩:=zoR b;exact h i _ (by omega) (zoh hi)
theorem jv{α β :Type}{L:List α}{n:Nat}{P: β->Prop}{f: α->β}(a:L.length=n)(h:∀(i:Nat) (y: α),i<n->L[i]?=some y->P (f y)):∀x∈L.map f,P x:=
 zlK a (Nat.lt_irrefl _) h
theorem zh4{d:PlanD}{w:World}(c:d.lie w)(C:(d.heads.n:Int)<=50/\(d.mta.n:Int)<=500/\(d.states.n:Int)<=50/\(d.acts.n:Int)<=50/\(d.tabs.n:Int)<=50/\(d.nodes.n:Int)<=50/\(d.out.n:Int)<=500)
 (q:∀(i:Nat) (y:HeadD),i<d.heads.n->d.hs[i]?=some y->y.w.n<=500) (x:∀(i:Nat) (y:StateD),i<d.states.n->d.ss[i]?=some y->y.cases.n<=500)
 (m:∀(i:Nat) (y:ActD),i<d.acts.n->d.al[i]?=some y->(y.w.n<=500/\y.ops.n<=50)/\∀(i:Nat) (z:OpD),i<y.ops.n->y.os[i]?=some z->z.e.n<=500)
 (u:∀(i:Nat) (y:TabD),i<d.tabs.n->d.ts[i]?=some y->y.keys.n<=500/\y.acts.n<=500/\y.args.n<=500) (t:∀(i:Nat) (y:NodeD),i<d.nodes.n->d.ns[i]?=some y->y.e.n<=500):d.p.little:=by
 have a:∀{α :Type} {k:Nat} {P: α->World->Nat->Nat->Prop} {s:QSl} {S:List α},QRow k P w s S->∀(i:Nat) (y: α),S[i]?=some y->∃g o,P y w g o:=fun h i y b=>by
  obtain⟨g,off,_,f⟩:=h.2 i y b;exact⟨g,_,f⟩
 refine⟨by simp[PlanD.p,c.hs.1];omega,by simp[PlanD.p,c.ms.1];omega,by simp[PlanD.p,c.ss.1];omega,by simp[PlanD.p,c.al.1];omega,by simp[PlanD.p,c.ts.1];omega,by simp[PlanD.p,c.ns.1];omega,by simp[PlanD.p,c.os.1];omega,?_,?_,?_,?_,?_,?_⟩
 ·refine jv c.hs.1 fun i y hi b=>?_
  obtain⟨g,o,f⟩:=a c.hs i y b;have:=q i y hi b;have e:=f.2.1;omega
 ·refine jv c.ss.1 fun i y hi b=>?_
  obtain⟨g,o,f⟩:=a c.ss i y b;have:=x i y hi b;have e:=f.2.2.2.2.2.1;show y.cs.length<=500;omega
 ·refine jv c.al.1 fun i y hi b=>?_
  obtain⟨g,o,f⟩:=a c.al i y b;have:=(m i y hi b).1;have e:=f.2.2.1.1;have B:=f.2.2.2.1;show y.ws.length<=500/\(y.os.map OpD.p).length<=50;rw[zoE];omega
 ·refine jv c.al.1 fun i y hi b=>?_
  obtain⟨g,o,f⟩:=a c.al i y b;have A:=(m i y hi b).2;refine jv f.2.2.2.1 fun j z r hz=>?_
  obtain⟨E,D,l⟩:=a f.2.2.2 j z hz;have:=A j z r hz;have e:=l.2.2.2.2.2.1;show z.es.length<=500;omega
 ·refine jv c.ts.1 fun i y hi b=>?_
  obtain⟨g,o,f⟩:=a c.ts i y b;have:=u i y hi b;have e:=f.2.2.2.2.2.2.1.1;have B:=f.2.2.2.2.2.2.2.1.1;have F:=f.2.2.2.2.2.2.2.2.1;show y.ks.length<=500/\y.al.length<=500/\y.zs.length<=500;omega
 ·refine jv c.ns.1 fun i y hi b=>?_
  obtain⟨g,o,f⟩:=a c.ns i y b;have:=t i y hi b;have e:=f.2.2.2.2.2.1;show y.es.length<=500;omega
theorem zf0(d:PlanD)(w:World)(hl:d.lie w):Calls Tryz.prog 5 #[d.v] w (zkc d w):=by
 obtain⟨t,hW1⟩:∃t,t=w.alloc d.box:=⟨_,rfl⟩;have B:Hid (Below w.heap.size w t):=by rw[hW1];exact ze (zof _ _)
 have E:=hid (hl.step B.out);obtain⟨D,hb0⟩:∃D,D=w.heap.size:=⟨_,rfl⟩;have c0:t.cell? ⟨D,0,none⟩=some (.slice d.heads.a d.heads.n d.heads.c):=by rw[hW1,hb0];simp
 have c2:t.cell? ⟨D,2,none⟩=some (.slice d.states.a d.states.n d.states.c):=by rw[hW1,hb0];simp
 have c3:t.cell? ⟨D,3,none⟩=some (.slice d.acts.a d.acts.n d.acts.c):=by rw[hW1,hb0];simp
 have c4:t.cell? ⟨D,4,none⟩=some (.slice d.tabs.a d.tabs.n d.tabs.c):=by rw[hW1,hb0];simp
 have c5:t.cell? ⟨D,5,none⟩=some (.slice d.nodes.a d.nodes.n d.nodes.c):=by rw[hW1,hb0];simp
 have u:Hid (∀b:Bool,(b=false->d.p.little)->zkc d w (.returned (.bool b)) t):=fun b h=>⟨b,rfl,h,B.out⟩
 have F:Hid (∀b:Bool,(b=false->d.p.little)->zkc d w (.returned (.bool b)) (w.alloc d.box)):=by rw[<-hW1];exact u
 have HW:=hid hW1;have R:=hid hb0;clear hl hW1 hb0 B;by_cases M:(50:Int)<(d.heads.n:Int)\/(500:Int)<(d.mta.n:Int)\/(50:Int)<(d.states.n:Int)\/(50:Int)<(d.acts.n:Int)\/(50:Int)<(d.tabs.n:Int)\/(50:Int)<(d.nodes.n:Int)\/(500:Int)<(d.out.n:Int)
 ·clear c0 c2 c3 c4 c5 E;go_enter Tryz.func5,Tryz.ntmps5
  go_wp2
  all_goals (first|(exfalso;omega)|(go_ret;exact F.out true (fun h=>by cases h)))
 obtain⟨n0,n1,n2,n3,n4,n5,n6⟩:(d.heads.n:Int)<=50/\(d.mta.n:Int)<=500/\(d.states.n:Int)<=50/\(d.acts.n:Int)<=50/\(d.tabs.n:Int)<=50/\(d.nodes.n:Int)<=50/\(d.out.n:Int)<=500:=by omega
 have HN:Hid ((d.heads.n:Int)<=50/\(d.mta.n:Int)<=500/\(d.states.n:Int)<=50/\(d.acts.n:Int)<=50/\(d.tabs.n:Int)<=50/\(d.nodes.n:Int)<=50/\(d.out.n:Int)<=500):=⟨n0,n1,n2,n3,n4,n5,n6⟩;clear M;have e0:decide ((50:Int)<(d.heads.n:Int))=false:=zoX (by omega)
 have e1:decide ((500:Int)<(d.mta.n:Int))=false:=zoX (by omega)
 have e2:decide ((50:Int)<(d.states.n:Int))=false:=zoX (by omega)
 have e3:decide ((50:Int)<(d.acts.n:Int))=false:=zoX (by omega)
 have e4:decide ((50:Int)<(d.tabs.n:Int))=false:=zoX (by omega)
 have e5:decide ((50:Int)<(d.nodes.n:Int))=false:=zoX (by omega)
 have e6:decide ((500:Int)<(d.out.n:Int))=false:=zoX (by omega)
 go_enter Tryz.func5,Tryz.ntmps5
 go_wp2;rw[<-HW.out];rw[<-R.out];clear HW R n1 n6 F e0 e1 e2 e3 e4 e5 e6;go_loopw [3] (fun q wr=>∃k:Nat,k<=d.heads.n/\q=.int .i64 k/\Hid (∀(i:Nat) (y:HeadD),i<k->d.hs[i]?=some y->y.w.n<=500)/\Hid (t=wr)) (fun q _=>d.heads.n-(intOf q).toNat)
 case atStart=>exact⟨0,zon _,rfl,fun i _ hi=>absurd hi (zoN _),rfl⟩
 case round=>
  obtain⟨Z,I,rfl,J,r⟩:=hrel;obtain rfl:=r.out;clear r;by_cases l:Z<d.heads.n
  ·have j:(Z:Int)<(d.heads.n:Int):=by omega
   obtain⟨g,off,x,U,f,o⟩:=zu E.out.hs l;have m:=hid f;clear f;have S:=Eq.mp (by rw[Nat.mul_one]) o.1.1
   clear o;by_cases s:(500:Int)<(x.w.n:Int)
   ·have f0:=zoY s;go_wp2;go_ret;exact u.out true (fun h=>by cases h)
   have f0:=zoX s;go_wp2;go_roundw
   case rel=>exact⟨Z+1,by omega,by go_num,qd J.out m.out (by omega),trivial⟩
   case measure=>simp[intOf];omega
  ·have j:¬(Z:Int)<(d.heads.n:Int):=by omega
   go_wp2;go_loopw [4] (fun q wr=>∃k:Nat,k<=d.states.n/\q=.int .i64 k/\Hid (∀(i:Nat) (y:StateD),i<k->d.ss[i]?=some y->y.cases.n<=500)/\Hid (t=wr)) (fun q _=>d.states.n-(intOf q).toNat)
   case atStart=>exact⟨0,zon _,rfl,fun i _ hi=>absurd hi (zoN _),rfl⟩
   case round=>
    obtain⟨X,I,rfl,G,r⟩:=hrel;obtain rfl:=r.out;clear r;by_cases l:X<d.states.n
    ·have j:(X:Int)<(d.states.n:Int):=by omega
     obtain⟨g,off,x,U,f,o⟩:=zu E.out.ss l;have m:=hid f;clear f;have S:=o.2.2.2.1.1;clear o;by_cases s:(500:Int)<(x.cases.n:Int)
     ·have f0:=zoY s;go_wp2;go_ret;exact u.out true (fun h=>by cases h)
     have f0:=zoX s;go_wp2;go_roundw
     case rel=>exact⟨X+1,by omega,by go_num,qd G.out m.out (by omega),trivial⟩
     case measure=>simp[intOf];omega
    ·have j:¬(X:Int)<(d.states.n:Int):=by omega
     go_wp2;go_loopw [5] (fun q wr=>∃k:Nat,k<=d.acts.n/\q=.int .i64 k/\Hid (∀(i:Nat) (y:ActD),i<k->d.al[i]?=some y->(y.w.n<=500/\y.ops.n<=50)/\∀(i:Nat) (z:OpD),i<y.ops.n->y.os[i]?=some z->z.e.n<=500)/\Hid (t=wr)) (fun q _=>d.acts.n-(intOf q).toNat)
     case atStart=>exact⟨0,zon _,rfl,fun i _ hi=>absurd hi (zoN _),rfl⟩
     case round=>
      obtain⟨T,I,rfl,P,r⟩:=hrel;obtain rfl:=r.out;clear r;by_cases l:T<d.acts.n
      ·have j:(T:Int)<(d.acts.n:Int):=by omega
       obtain⟨g,off,x,U,f,o⟩:=zu E.out.al l;have m:=hid f;clear f;have S:=o.1.1;have q1:=o.2.1.1;have HX:=hid o.2.2.2;clear o;by_cases s:(500:Int)<(x.w.n:Int)
       ·have f0:=zoY s;go_wp2;go_ret;exact u.out true (fun h=>by cases h)
       have f0:=zoX s;by_cases Q:(50:Int)<(x.ops.n:Int)
       ·have f1:=zoY Q;go_wp2;go_ret;exact u.out true (fun h=>by cases h)
       have f1:=zoX Q;go_wp2;go_loopw [6] (fun q wr=>∃k:Nat,k<=x.ops.n/\q=.int .i64 k/\Hid (∀(i:Nat) (y:OpD),i<k->x.os[i]?=some y->y.e.n<=500)/\Hid (t=wr)) (fun q _=>x.ops.n-(intOf q).toNat)
       case atStart=>exact⟨0,zon _,rfl,fun i _ hi=>absurd hi (zoN _),rfl⟩
       case round=>
        obtain⟨V,I,rfl,N,r⟩:=hrel;obtain rfl:=r.out;clear r;by_cases l:V<x.ops.n
        ·have j:(V:Int)<(x.ops.n:Int):=by omega
         obtain⟨g2,a0,x2,a1,C,H⟩:=zu HX.out l;have O:=hid C;clear C;have q2:=H.2.2.2.2.1.1;clear H;by_cases s:(500:Int)<(x2.e.n:Int)
         ·have f0:=zoY s;go_wp2;go_ret;exact u.out true (fun h=>by cases h)
         have f0:=zoX s;go_wp2;go_roundw
         case rel=>exact⟨V+1,by omega,by go_num,qd N.out O.out (by omega),trivial⟩
         case measure=>simp[intOf];omega
        ·have j:¬(V:Int)<(x.ops.n:Int):=by omega
         go_wp2;go_roundw
         case rel=>exact⟨T+1,by omega,by go_num,qd P.out m.out ⟨⟨by omega,by omega⟩,fun i z hi hz=>N.out i z (by omega) hz⟩,trivial⟩
         case measure=>simp[intOf];omega
      ·have j:¬(T:Int)<(d.acts.n:Int):=by omega
       go_wp2;go_loopw [7] (fun q wr=>∃k:Nat,k<=d.tabs.n/\q=.int .i64 k/\Hid (∀(i:Nat) (y:TabD),i<k->d.ts[i]?=some y->y.keys.n<=500/\y.acts.n<=500/\y.args.n<=500)/\Hid (t=wr)) (fun q _=>d.tabs.n-(intOf q).toNat)
       case atStart=>exact⟨0,zon _,rfl,fun i _ hi=>absurd hi (zoN _),rfl⟩
       case round=>
        obtain⟨Y,I,rfl,K,r⟩:=hrel;obtain rfl:=r.out;clear r;by_cases l:Y<d.tabs.n
        ·have j:(Y:Int)<(d.tabs.n:Int):=by omega
         obtain⟨g,off,x,U,f,o⟩:=zu E.out.ts l;have m:=hid f;clear f;have S:=o.2.1.1;have q1:=o.2.2.1.1;have q2:=o.2.2.2.2.2.1.1;clear o;by_cases s:(500:Int)<(x.keys.n:Int)
         ·have f0:=zoY s;go_wp2;go_ret;exact u.out true (fun h=>by cases h)
         have f0:=zoX s;by_cases Q:(500:Int)<(x.acts.n:Int)
         ·have f1:=zoY Q;go_wp2;go_ret;exact u.out true (fun h=>by cases h)
         have f1:=zoX Q;by_cases g2:(500:Int)<(x.args.n:Int)
         ·have f2:=zoY g2;go_wp2;go_ret;exact u.out true (fun h=>by cases h)
         have f2:=zoX g2;go_wp2;go_roundw
         case rel=>exact⟨Y+1,by omega,by go_num,qd K.out m.out ⟨by omega,by omega,by omega⟩,trivial⟩
         case measure=>simp[intOf];omega
        ·have j:¬(Y:Int)<(d.tabs.n:Int):=by omega
         go_wp2;go_loopw [8] (fun q wr=>∃k:Nat,k<=d.nodes.n/\q=.int .i64 k/\Hid (∀(i:Nat) (y:NodeD),i<k->d.ns[i]?=some y->y.e.n<=500)/\Hid (t=wr)) (fun q _=>d.nodes.n-(intOf q).toNat)
         case atStart=>exact⟨0,zon _,rfl,fun i _ hi=>absurd hi (zoN _),rfl⟩
         case round=>
          obtain⟨W,I,rfl,L,r⟩:=hrel;obtain rfl:=r.out;clear r;by_cases l:W<d.nodes.n
          ·have j:(W:Int)<(d.nodes.n:Int):=by omega
           obtain⟨g,off,x,U,f,o⟩:=zu E.out.ns l;have m:=hid f;clear f;have S:=o.2.2.1.1;clear o;by_cases s:(500:Int)<(x.e.n:Int)
           ·have f0:=zoY s;go_wp2;go_ret;exact u.out true (fun h=>by cases h)
           have f0:=zoX s;go_wp2;go_roundw
           case rel=>exact⟨W+1,by omega,by go_num,qd L.out m.out (by omega),trivial⟩
           case measure=>simp[intOf];omega
          ·have j:¬(W:Int)<(d.nodes.n:Int):=by omega
           go_wp2;go_ret;exact u.out false fun _=>zh4 E.out HN.out (fun i y hi A=>J.out i y (by omega) A) (fun i y hi A=>G.out i y (by omega) A) (fun i y hi A=>P.out i y (by omega) A) (fun i y hi A=>K.out i y (by omega) A) (fun i y hi A=>L.out i y (by omega) A)
theorem zrq{d:PlanD}{w:World}(j:d.lie w)(h:d.p.mid):d.small:=by
 have b:∀{α β :Type} {L:List α} {f: α->β} {x: α},x∈L->f x∈L.map f:=fun c=>zoJ.2 ⟨_,c,rfl⟩
 refine⟨?_,fun x c=>?_,fun t k=>?_,?_⟩
 ·have:=h.al;simp[PlanD.p,j.al.1]at this;omega
 ·obtain⟨i,hi,rfl⟩:=zoR c;obtain⟨g,o,_,a⟩:=j.al.2 i _ (zoh hi);have:=(h.aw _ (b c)).1;have e:=a.2.2.1.1;have:(d.al[i].p.ws).length=d.al[i].ws.length:=rfl;omega
 ·obtain⟨i,hi,rfl⟩:=zoR k;obtain⟨g,o,_,a⟩:=j.ts.2 i _ (zoh hi);have m:=h.tl _ (b k);have e:=a.2.2.2.2.2.2.1.1;have n:=a.2.2.2.2.2.2.2.1.1;have l:=a.2.2.2.2.2.2.2.2.1;have f1:(d.ts[i].p.ks).length=d.ts[i].ks.length:=rfl;have f2:(d.ts[i].p.al).length=d.ts[i].al.length:=rfl;have f3:(d.ts[i].p.zs).length=d.ts[i].zs.length:=rfl;omega
 ·have:=h.os;simp[PlanD.p,j.os.1]at this;omega
theorem zbk{d:PlanD}{w:World}(a:d.lie w)(h:d.p.little):d.small:=zrq a h.mid
end Go.Proofs.YtbmcgbmegcpgnaaGreat
