import Derived.Test.YtbmcgbmegcpgnaaGreatVZEnc2
import Derived.Test.YtbmcgbmegcpgnaaGreatG9
set_option maxHeartbeats 200000
set_option maxRecDepth 20000
set_option linter.unusedSimpArgs false
namespace Go.Proofs.YtbmcgbmegcpgnaaGreat
open Go.RowKit
theorem zrv:∀(k n:Nat),n<128^(k+1)->(y8 n).length<=k+1
 |0,n,h=>by rw[zpE (by simpa using h)];simp
 |k+1,n,h=>by
  by_cases a:n<128
  ·rw[zpE a];simp
  ·rw[zpU a,zvv];have:=zrv k (n/128) (Nat.div_lt_of_lt_mul (by rw[Nat.mul_comm,<-Nat.pow_succ];exact h))
   omega
theorem zpm{n:Nat}(h:n<18446744073709551616):(y8 n).length<=10:=zrv 9 n (zom h (by decide))
theorem kd{n:Int}(h:wfI n):(zk n).length<=10:=zpm (zrJ h)
theorem zbF{n:Nat}(h:n<=100000):wfI (n:Int):=by
 unfold wfI;simp[Lit.wf,IntKind.min,IntKind.max,IntKind.bits,IntKind.signed];omega
theorem zpI{n:Nat}(h:n<=100000):(zk (n:Int)).length<=10:=kd (zbF h)
theorem zpa{α :Type}{f: α->List Int}{b:Nat}:∀{L:List α},(∀x∈L,(f x).length<=b)->(L.flatMap f).length<=L.length*b
 |[],_=>by simp
 |x::L,h=>by
  have d:=zpa (L:=L) fun y a=>h y (List.mem_cons_of_mem _ a)
  have c:=h x List.mem_cons_self;rw[zvw,List.length_append,zvv,Nat.add_mul,Nat.one_mul];omega
theorem zpx{ns:List Int}(h:∀x∈ns,wfI x){k:Nat}(a:ns.length<=k)(g:k<=100000):(xr ns).length<=10+k*10:=by
 unfold xr;have i:=zpI (show ns.length<=100000 by omega)
 have e:=zpa (f:=zk) (b:=10) fun x c=>kd (h x c)
 have d:ns.length*10<=k*10:=Nat.mul_le_mul_right _ a;rw[List.length_append];omega
theorem ztL{zs:List Int}(h:∀x∈zs,(Lit.int .u64 x).wf=true){k:Nat}(a:zs.length<=k)(g:k<=100000):(zqa zs).length<=10+k*10:=by
 unfold zqa;have i:=zpI (show zs.length<=100000 by omega)
 have e:=zpa (f:=fun z:Int=>y8 z.toNat) (b:=10) (L:=zs) fun x c=>zpm (by have:=bounds_u64 (h x c);omega)
 have d:zs.length*10<=k*10:=Nat.mul_le_mul_right _ a;rw[List.length_append];omega
theorem zqb{r:RefD}(b:wfI r.h)(a:wfI r.f):(zoZ r).length<=20:=by
 have:=kd b;have:=kd a;unfold zoZ;rw[List.length_append];omega
theorem zjU{x:PushD}(h:wfI x.op/\wfI x.r.h/\wfI x.r.f/\(Lit.int .u64 x.n).wf=true):(zpi x).length<=30:=by
 have c:=kd h.1;have a:=zqb h.2.1 h.2.2.1;have b:=zpm (n:=x.n.toNat) (by have:=bounds_u64 h.2.2.2;omega)
 unfold zpi;rw[List.length_append];split
 ·omega
 ·split
  ·omega
  ·simp;omega
theorem zeF{es:List PushD}(h:∀x∈es,wfI x.op/\wfI x.r.h/\wfI x.r.f/\(Lit.int .u64 x.n).wf=true)(d:es.length<=500):(zpc es).length<=15010:=by
 unfold zpc;have e:=zpI (show es.length<=100000 by omega)
 have c:=zpa (f:=zpi) (b:=30) fun x a=>zjU (h x a)
 rw[List.length_append];omega
theorem zqQ{w:World}{s:QSl}{S:List PushD}(h:QRow 4 PushD.lie w s S):∀x∈S,wfI x.op/\wfI x.r.h/\wfI x.r.f/\(Lit.int .u64 x.n).wf=true:=fun x b=>by
 obtain⟨i,hi,rfl⟩:=zoR b;obtain⟨g,off,_,a⟩:=h.2 i _ (zoh hi);exact⟨a.1.2,a.2.1.2,a.2.2.1.2,a.2.2.2.2⟩
theorem zpn{α :Type}{k:Nat}{P: α->World->Nat->Nat->Prop}{w:World}{s:QSl}{S:List α}(h:QRow k P w s S):∀y∈S,∃g o,P y w g o:=fun y b=>by
 obtain⟨i,hi,rfl⟩:=zoR b;obtain⟨g,off,_,a⟩:=h.2 i _ (zoh hi);exact⟨g,_,a⟩
theorem ztM{w:World}{g o:Nat}{x:HeadD}(h:x.lie w g o)(a:x.ws.length<=500):(zo8 x).length<=5010:=zpx h.2.2.1 a (by decide)
theorem ztN{w:World}{g o:Nat}{x:CaseD}(h:x.lie w g o):(zpe x).length<=30:=by
 have c:=zpm (n:=x.value.toNat) (by have:=bounds_u64 h.1.2;omega)
 have a:=zpm (n:=x.mask.toNat) (by have:=bounds_u64 h.2.1.2;omega)
 have b:=kd h.2.2.2;unfold zpe;simp only[List.length_append];omega
theorem zrw{w:World}{g o:Nat}{x:StateD}(h:x.lie w g o)(i:x.cs.length<=500):(kg x).length<=15100:=by
 have q:=kd h.1.2;have e:=zpI (n:=x.cases.n) (by have:=h.2.2.2.2.2.1;omega)
 have d:=zqb h.2.1.2 h.2.2.1.2;have m:=zpa (f:=zpe) (b:=30) (L:=x.cs) fun y a=>by obtain⟨k,l,c⟩:=zpn h.2.2.2.2.2 y a;exact ztN c
 have j:=kd h.2.2.2.2.1.2;unfold kg;simp only[List.length_append];split
 ·simp only[List.length_nil];omega
 ·omega
theorem ztO{w:World}{g o:Nat}{x:OpD}(h:x.lie w g o)(a:x.es.length<=500):(opL x).length<=15100:=by
 have e:=kd h.1.2;have c:=zqb h.2.1.2 h.2.2.1.2;have b:=kd h.2.2.2.1.2;have d:=zeF (zqQ h.2.2.2.2.2) a;unfold opL;rw[List.length_append];(repeat' split)<;>first|omega|(simp only[List.length_append];omega)|(simp only[List.length_nil];omega)
theorem zut{w:World}{g o:Nat}{x:ActD}(h:x.lie w g o)(hw:x.ws.length<=500)(i:x.os.length<=50)(d:∀y∈x.os,y.es.length<=500):(zpr x).length<=770000:=by
 have m:=zpx h.2.2.1.2.1 hw (by decide)
 have j:=zpI (n:=x.ops.n) (by have:=h.2.2.2.1;omega)
 have e:=zpa (f:=opL) (b:=15100) (L:=x.os) fun y a=>by obtain⟨k,l,c⟩:=zpn h.2.2.2 y a;exact ztO c (d y a)
 unfold zpr;simp only[List.length_append];omega
theorem zuu{w:World}{g o:Nat}{x:TabD}(h:x.lie w g o)(j:x.ks.length<=500)(ha:x.al.length<=500)(hz:x.zs.length<=500):(zpB x).length<=30000:=by
 have e:=kd h.1.2;have i:=zpI (n:=x.keys.n) (by have:=h.2.2.2.2.2.2.1.1;omega)
 have d:=zpa (f:=zoZ) (b:=20) (L:=x.ks) fun y c=>by obtain⟨m,l,a⟩:=zpn h.2.2.2.2.2.2.1 y c;exact zqb a.1.2 a.2.2
 have r:=zpx h.2.2.2.2.2.2.2.1.2.1 ha (by decide)
 have k:=kd h.2.2.2.1.2;have s:=kd h.2.2.2.2.1.2;have q:=ztL h.2.2.2.2.2.2.2.2.2.1 hz (by decide)
 unfold zpB;simp only[List.length_append];omega
theorem ztP{w:World}{g o:Nat}{x:NodeD}(h:x.lie w g o)(a:x.es.length<=500):(zpg x).length<=15100:=by
 have f:=kd h.1.2;have c:=kd h.2.1.2;have b:=kd h.2.2.2.1.2;have e:=kd h.2.2.2.2.1.2;have d:=zeF (zqQ h.2.2.2.2.2) a;unfold zpg;rw[List.length_append];(repeat' split)<;>first|omega|(simp only[List.length_append];omega)
theorem ztQ{d:PlanD}{w:World}(e:d.lie w)(i:d.p.little)(k:(zD d.p).1=0):(zpo d).length<=9000000:=by
 have a:∀{α β :Type} {L:List α} {f: α->β} {x: α},x∈L->f x∈L.map f:=fun t=>zoJ.2 ⟨_,t,rfl⟩
 have s:(d.p.hs.length:Int)<=6:=(zB k 0 (by decide)).2.1
 have A:(d.p.ss.length:Int)<=8:=(zB k 2 (by decide)).2.1
 have r:(d.p.al.length:Int)<=8:=(zB k 3 (by decide)).2.1
 have u:(d.p.ts.length:Int)<=5:=(zB k 4 (by decide)).2.1
 have B:(d.p.ns.length:Int)<=10:=(zB k 5 (by decide)).2.1
 have q:=i.ms;have l:=i.os;simp only[PlanD.p,zoE]at s A r u B q l;have F:=e.hs.1;have K:=e.ss.1;have J:=e.al.1;have H:=e.ts.1;have M:=e.ns.1;have C:=zpa (f:=zo8) (b:=5010) (L:=d.hs) fun y c=>by obtain⟨g,o,h⟩:=zpn e.hs y c;exact ztM h (i.hw _ (a c))
 have G:=zpx e.ms.2.1 q (by decide)
 have O:=zpa (f:=kg) (b:=15100) (L:=d.ss) fun y c=>by obtain⟨g,o,h⟩:=zpn e.ss y c;exact zrw h (i.sc _ (a c))
 have I:=zpa (f:=zpr) (b:=770000) (L:=d.al) fun y c=>by
  obtain⟨g,o,h⟩:=zpn e.al y c;have j:=i.aw _ (a c);have m:(y.os.map OpD.p).length<=50:=j.2;rw[zoE]at m;exact zut h j.1 m fun z hz=>i.ae _ (a c) _ (a hz)
 have N:=zpa (f:=zpB) (b:=30000) (L:=d.ts) fun y c=>by
  obtain⟨g,o,h⟩:=zpn e.ts y c;have j:=i.tl _ (a c);exact zuu h j.1 j.2.1 j.2.2
 have D:=zpa (f:=zpg) (b:=15100) (L:=d.ns) fun y c=>by obtain⟨g,o,h⟩:=zpn e.ns y c;exact ztP h (i.ne _ (a c))
 have E:=zpx e.os.2.1 l (by decide)
 have c0:=zpI (n:=d.heads.n) (by omega)
 have c2:=zpI (n:=d.states.n) (by omega)
 have c3:=zpI (n:=d.acts.n) (by omega)
 have c4:=zpI (n:=d.tabs.n) (by omega)
 have c5:=zpI (n:=d.nodes.n) (by omega)
 unfold zpo zpK;simp only[List.length_append,zvv,List.length_nil];omega
theorem zuv{d:PlanD}{w:World}(i:d.lie w)(h:d.p.little):d.wfew:=by
 have b:∀{α β :Type} {L:List α} {f: α->β} {x: α},x∈L->f x∈L.map f:=fun a=>zoJ.2 ⟨_,a,rfl⟩
 refine⟨⟨?_,fun x a=>?_⟩,?_,⟨?_,fun x a=>?_⟩,⟨?_,fun x a=>?_⟩,⟨?_,fun x a=>?_⟩,⟨?_,fun x a=>?_⟩,?_⟩
 ·have:=h.hs;simp[PlanD.p,i.hs.1]at this;omega
 ·obtain⟨g,o,c⟩:=zpn i.hs x a;have:x.ws.length<=500:=h.hw _ (b a);have e:=c.2.1;omega
 ·have:=h.ms;simp[PlanD.p,i.ms.1]at this;omega
 ·have:=h.ss;simp[PlanD.p,i.ss.1]at this;omega
 ·obtain⟨g,o,c⟩:=zpn i.ss x a;have:x.cs.length<=500:=h.sc _ (b a);have e:=c.2.2.2.2.2.1;omega
 ·have:=h.al;simp[PlanD.p,i.al.1]at this;omega
 ·obtain⟨g,o,c⟩:=zpn i.al x a;have j:=h.aw _ (b a);have n:x.ws.length<=500:=j.1;have l:(x.os.map OpD.p).length<=50:=j.2;rw[zoE]at l;have e:=c.2.2.1.1;have r:=c.2.2.2.1;refine⟨by omega,by omega,fun y m=>?_⟩
  obtain⟨s,t,k⟩:=zpn c.2.2.2 y m;have:y.es.length<=500:=h.ae _ (b a) _ (b m);have q:=k.2.2.2.2.2.1;omega
 ·have:=h.ts;simp[PlanD.p,i.ts.1]at this;omega
 ·obtain⟨g,o,c⟩:=zpn i.ts x a;have j:=h.tl _ (b a);have n:x.ks.length<=500:=j.1;have l:x.al.length<=500:=j.2.1;have u:x.zs.length<=500:=j.2.2;have e:=c.2.2.2.2.2.2.1.1;have r:=c.2.2.2.2.2.2.2.1.1;have q:=c.2.2.2.2.2.2.2.2.1;omega
 ·have:=h.ns;simp[PlanD.p,i.ns.1]at this;omega
 ·obtain⟨g,o,c⟩:=zpn i.ns x a;have:x.es.length<=500:=h.ne _ (b a);have e:=c.2.2.2.2.2.1;omega
 ·have:=h.os;simp[PlanD.p,i.os.1]at this;omega
theorem zrk(d:PlanD)(w:World)(a:d.lie w)(b:d.p.little):Calls Tryz.prog 7 #[d.v] w (zpY d w):=by
 by_cases c:(zD d.p).1=0
 ·exact zrT d w a (zbk a b) (zuv a b) (ztQ a b c) c
 ·exact zsz d w a (zbk a b) c
end Go.Proofs.YtbmcgbmegcpgnaaGreat
