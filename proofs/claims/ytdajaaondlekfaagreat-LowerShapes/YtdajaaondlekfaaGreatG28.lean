import Derived.Test.YtdajaaondlekfaaGreatG27
import Derived.Test.YtdajaaondlekfaaGreatG5
set_option maxHeartbeats 16000000
set_option maxRecDepth 20000
set_option linter.unusedSimpArgs false
namespace Go.Proofs.YtdajaaondlekfaaGreat
open Go.RowKit
theorem zgo(s:Wk.Sets):Wk.shiftS 0 0 s=s:=by
 obtain⟨a,b,c,d,e⟩:=s;simp[Wk.shiftS]
theorem zfs{d:PlanD}{k:Nat}{x:StateD}(h:d.ss[k]?=some x):d.p.ss.getD k PState.z=x.p:=yY h _
theorem zgp{d:PlanD}{q:Nat}{x:StateD}{s:Wk.Sets}{w:World}{i:Nat}(k:d.lie w)(r:w.cell? ⟨q,0,none⟩=some (.slice d.heads.a d.heads.n d.heads.c))(hs:s.few)(j:(zD d.p).1=0)(m:qJ d.p i x.p):
 Calls Tryz.prog 146 #[ziO q x s] w fun e w'=>e=.returned (Wk.shiftS (zv x.head) (szP d.p x.p) s).v/\Below w.heap.size w w':=by
 have B:x.head= -1\/0<=x.head/\x.head<(d.p.hs.length:Int):=m.head;have D:(d.p.hs.length:Int)<=6:=(zB j 0 (by decide)).2.1
 have A:d.p.hs.length=d.heads.n:=by simp[PlanD.p,k.hs.1]
 by_cases h0:x.head<0
 ·have y:zv x.head=0:=by unfold zv;rw[if_pos h0]
  have b:szP d.p x.p=0:=by unfold szP;rw[if_pos (show x.p.head<0 from h0)]
  rw[y,b,zgo];exact ziD q x s w h0
 ·have f:x.head.toNat<d.heads.n:=by omega
  obtain⟨C,t,hd,u,o,l⟩:=zu k.hs f;rw[Nat.mul_one]at l;have g:yJ (d.p.hs.getD x.head.toNat [])=0:=(zB j 0 (by decide)).2.2 _ (by show _<d.p.hs.length;omega)
  have h:d.p.hs.getD x.head.toNat []=hd.ws:=yY o _;rw[h]at g;have b:szP d.p x.p=xZ hd.ws:=by
   unfold szP;rw[if_neg (show¬x.p.head<0 from h0)]
   show xZ (d.p.hs.getD x.head.toNat [])=_;rw[h]
  rw[b];exact zgl q x s w hs ⟨by omega,by omega⟩ r (by omega) u l g
theorem ziF{s:Wk.Sets}{b z:Nat}(a:s.must<2^6)(h2:s.may<2^6)(e:s.least<=900)(d:s.most<=900)(hb:b<2^6)(c:z<=32):(Wk.shiftS b z s).few:=
 ⟨Nat.or_lt_two_pow a hb,Nat.or_lt_two_pow h2 hb,by show s.least+z<=1000;omega,by show s.most+z<=1000;omega⟩
def qk(n:Nat)(A:List Wk.Sets)(s:Wk.Sets)(cs:List CaseD)(j:Nat):List Wk.Sets:=((cs.take j).map CaseD.to).foldl (fun A tq=>xP n A s tq) A
theorem zgq{n:Nat}{A:List Wk.Sets}{s:Wk.Sets}{cs:List CaseD}{j:Nat}{c:CaseD}(h:cs[j]?=some c):qk n A s cs (j+1)=xP n (qk n A s cs j) s c.to:=by
 unfold qk;rw[zoI,h];simp
theorem zdK{n:Nat}{s:Wk.Sets}(hs:s.few):∀(l:List Int) {A:List Wk.Sets},Few A->Few (l.foldl (fun A tq=>xP n A s tq) A)/\(l.foldl (fun A tq=>xP n A s tq) A).length=A.length
 |[],_,hA=>⟨hA,rfl⟩
 |tq::l,A,hA=>by
  have:=zdK (n:=n) hs l (zkL (n:=n) (tq:=tq) hA hs);exact⟨this.1,this.2.trans zfr⟩
theorem ziG{n:Nat}{A:List Wk.Sets}{s:Wk.Sets}{x:PState}:xP n (qk n A s x.cs x.cs.length) s x.els=Wk.leadTo A s (kv n (ye x)):=by
 rw[<-zc2];unfold qk ye;rw[List.take_length,List.foldl_append];rfl
theorem zkM{p:PPlan}(b:(zD p).1=0){i:Nat}{x:PState}(a:qJ p i x)(h:0<x.cs.length):x.r.h<6:=by
 have hw:=a.on h;have c:(p.hs.length:Int)<=6:=(zB b 0 (by decide)).2.1
 refine Decidable.byContradiction fun d=>hw ?_
 unfold PPlan.width PPlan.fields;rw[if_neg (show¬x.r.h= -1 by omega),if_neg (show¬x.r.h= -2 by omega),if_neg (show¬x.r.h= -3 by omega),if_pos (show x.r.h<0\/(p.hs.length:Int)<=x.r.h by omega)]
 rw[if_pos (by simp;omega)]
theorem znV{w w':World}{q c d g a:Nat}{v0 v1 u0 u1 u2 u3 u4 t0 t1 t2 j i:Value}(h:w.cell? ⟨q,2,none⟩=some v0/\w.cell? ⟨q,7,none⟩=some v1/\w.cell? ⟨c,d,none⟩=some u0/\w.cell? ⟨c,d+1,none⟩=some u1/\w.cell? ⟨c,d+2,none⟩=some u2/\w.cell? ⟨c,d+3,none⟩=some u3/\w.cell? ⟨c,d+4,none⟩=some u4/\w.cell? ⟨g,a,none⟩=some t0/\w.cell? ⟨g,a+1,none⟩=some t1/\w.cell? ⟨g,a+2,none⟩=some t2/\w.cell? ⟨g,a+3,none⟩=some j/\w.cell? ⟨g,a+4,none⟩=some i)(b:Below w.heap.size w w'):w'.cell? ⟨q,2,none⟩=some v0/\w'.cell? ⟨q,7,none⟩=some v1/\w'.cell? ⟨c,d,none⟩=some u0/\w'.cell? ⟨c,d+1,none⟩=some u1/\w'.cell? ⟨c,d+2,none⟩=some u2/\w'.cell? ⟨c,d+3,none⟩=some u3/\w'.cell? ⟨c,d+4,none⟩=some u4/\w'.cell? ⟨g,a,none⟩=some t0/\w'.cell? ⟨g,a+1,none⟩=some t1/\w'.cell? ⟨g,a+2,none⟩=some t2/\w'.cell? ⟨g,a+3,none⟩=some j/\w'.cell? ⟨g,a+4,none⟩=some i:=by
 obtain⟨h0,r,h2,l,n,o,k,h7,m,s,f,e⟩:=h;exact⟨za h0 b,za r b,za h2 b,za l b,za n b,za o b,za k b,za h7 b,za m b,za s b,za f b,za e b⟩
theorem znb{d:PlanD}{q g k:Nat}{A:List Wk.Sets}{w:World}{s:Wk.Sets}{x:StateD}(hl:d.lie w)(T:(zD d.p).1=0)(hb:WkB d q g w)(ha:Ahd g A w)(hf:Few A)(Y:A.length=d.states.n+1)(hk:k<d.states.n)(hx:d.ss[k]?=some x)(hs:A[k]?=some s)(ht:s.there=true)(h9:s.least<=900/\s.most<=900)(R:∀w',But g w w'->d.lie w'):
 Calls Tryz.prog 104 #[.pointer (some ⟨q,0,none⟩),.int .i64 k] w (zaR g (yP x.p s) (Wk.leadTo A (Wk.shiftS (zv x.head) (szP d.p x.p) s) (kv d.states.n (ye x.p))) w):=by
 have a6:d.states.n<=8:=by
  have:(d.p.ss.length:Int)<=8:=(zB T 2 (by decide)).2.1
  have e:d.p.ss.length=d.states.n:=by simp[PlanD.p,hl.ss.1]
  omega
 have b9:k<d.p.ss.length:=by simp[PlanD.p,hl.ss.1];exact hk
 have ho:qJ d.p k x.p:=by have:=zam T b9;rwa[zfs hx]at this
 have H:s.few:=hf s (zol hs);obtain⟨sg,so,x',ea,b1,hp⟩:=zu hl.ss hk;obtain rfl:x=x':=by rw[hx]at b1;exact zoq b1
 obtain⟨⟨k0,_⟩,⟨k1,_⟩,⟨k2,_⟩,⟨k3,_⟩,⟨k4,_⟩,V⟩:=hp;have e9:∀w',But g w w'->QRow 3 CaseD.lie w' x.cases x.cs:=fun w' h=>by
  obtain⟨_,_,x2,_,b4,g0⟩:=zu (R w' h).ss hk;obtain rfl:x=x2:=by rw[hx]at b4;exact zoq b4
  exact g0.2.2.2.2.2
 obtain⟨z0,z2,z7,b2⟩:=hb;rw[ea]at z2;obtain⟨a0,a1,a2,a3,a4⟩:=ha.cs k s hs;rw[ht]at a4;obtain⟨m,hm⟩:∃m,m=d.states.n+1:=⟨_,rfl⟩;rw[<-hm]at z7;have g4:(k:Int)<(d.states.n:Int):=by omega
 have f3:(k:Int)<(m:Int):=by omega
 have f6:(0:Int)<=(k:Int):=by omega
 obtain⟨O,l⟩:∃O,x.cases.a=O:=⟨_,rfl⟩;obtain⟨r,er⟩:∃r,r=(Wk.shiftS (zv x.head) (szP d.p x.p) s):=⟨_,rfl⟩;have L:szP d.p x.p<=32:=by
  have M:szP d.p (d.p.ss.getD k PState.z)<=32:=zeh T k;rwa[zfs hx]at M
 have Z:r.few:=by rw[er];exact ziF H.mu H.ma h9.1 h9.2 (jz (by have M:x.head= -1\/0<=x.head/\x.head<(d.p.hs.length:Int):=ho.head;have e6:(d.p.hs.length:Int)<=6:=(zB T 0 (by decide)).2.1;omega)) L
 have e1:Hid (∀w',Calls Tryz.prog 145 #[.agg #[.pointer (some ⟨q,0,none⟩),.int .i64 x.head,.int .i64 x.r.h,.int .i64 x.r.f,.slice O x.cases.n x.cases.c,.int .i64 x.els,.int .u64 (s.must:Int),.int .u64 (s.may:Int),.int .i64 (s.least:Int),.int .i64 (s.most:Int),.bool true]] w' fun e a7=>e=.returned (.int .i64 (yP x.p s))/\Below w'.heap.size w' a7):=fun w'=>by
  have:=zgA q x s w' H (by have M:x.head= -1\/0<=x.head/\x.head<(d.p.hs.length:Int):=ho.head;have e6:(d.p.hs.length:Int)<=6:=(zB T 0 (by decide)).2.1;omega) (fun h=>zkM T ho (by show 0<x.cs.length;rw[V.1];exact h)) V.1
  unfold ziO at this;rwa[ht,l]at this
 have a5:Hid (∀w',But g w w'->Calls Tryz.prog 146 #[.agg #[.pointer (some ⟨q,0,none⟩),.int .i64 x.head,.int .i64 x.r.h,.int .i64 x.r.f,.slice O x.cases.n x.cases.c,.int .i64 x.els,.int .u64 (s.must:Int),.int .u64 (s.may:Int),.int .i64 (s.least:Int),.int .i64 (s.most:Int),.bool true]] w' fun e a7=>e=.returned (.agg #[.int .u64 (r.must:Int),.int .u64 (r.may:Int),.int .i64 (r.least:Int),.int .i64 (r.most:Int),.bool r.there])/\Below w'.heap.size w' a7):=fun w' h=>by
  have:=zgp (q:=q) (x:=x) (s:=s) (R w' h) (h.cell b2 z0) H T ho;rw[<-er]at this;unfold ziO at this;rwa[ht,l]at this
 have S:Hid (∀(w':World) (B:List Wk.Sets) (tq:Int),But g w w'->Ahd g B w'->Few B->B.length=d.states.n+1->tq∈ye x.p->Calls Tryz.prog 147 #[.pointer (some ⟨q,0,none⟩),.int .i64 tq,.agg #[.int .u64 (r.must:Int),.int .u64 (r.may:Int),.int .i64 (r.least:Int),.int .i64 (r.most:Int),.bool r.there]] w' (jA g (xP d.states.n B r tq) w')):=fun w' B tq h hB g9 g7 h7=>
  ziE r tq (WkB.but ⟨z0,by rw[ea];exact z2,by rw[<-hm];exact z7,b2⟩ h) hB g9 Z g7 (by
   rcases ho.out tq h7 with M|M|M
   ·exact .inl M
   ·exact .inr (.inl M)
   ·have e:d.p.ss.length=d.states.n:=by simp[PlanD.p,hl.ss.1]
    exact .inr (.inr (by omega))) a6
 have b5:=hid Z;have b7:=hid er;have f5:=hid l;have HA:=hid ha;have HF:=hid hf;have h6:=hid R;have f9:=hid e9;have HO:=hid ho;have HC:=hid T;have h0:=hid H;have e3:=hid Y;have H9:=hid h9;have i1:Hid (WkB d q g w):=⟨z0,by rw[ea];exact z2,by rw[<-hm];exact z7,b2⟩
 have g3:=hid a6;have J:Hid (g<w.heap.size):=ha.lt;have f0:=hid V.1;rw[l]at k3;clear ha hf R e9 ho T H Y h9 a6 hl V hx hs hk b9 b1 hm ea Z er l L;go_enter Tryz.func104,Tryz.ntmps104
 go_wp2_with fail
 go_region_held3 (fun w'=>w'.cell? ⟨q,2,none⟩=some (.slice (some ⟨sg,so,none⟩) d.states.n d.states.c)/\w'.cell? ⟨q,7,none⟩=some (.slice (some ⟨g,0,none⟩) m m)/\w'.cell? ⟨sg,so+k*5,none⟩=some (.int .i64 x.head)/\w'.cell? ⟨sg,so+k*5+1,none⟩=some (.int .i64 x.r.h)/\w'.cell? ⟨sg,so+k*5+2,none⟩=some (.int .i64 x.r.f)/\w'.cell? ⟨sg,so+k*5+3,none⟩=some (.slice O x.cases.n x.cases.c)/\w'.cell? ⟨sg,so+k*5+4,none⟩=some (.int .i64 x.els)/\w'.cell? ⟨g,k*5,none⟩=some (.int .u64 (s.must:Int))/\w'.cell? ⟨g,k*5+1,none⟩=some (.int .u64 (s.may:Int))/\w'.cell? ⟨g,k*5+2,none⟩=some (.int .i64 (s.least:Int))/\w'.cell? ⟨g,k*5+3,none⟩=some (.int .i64 (s.most:Int))/\w'.cell? ⟨g,k*5+4,none⟩=some (.bool true))
  (first
   |(go_split_ands;with_reducible exact znV ⟨by assumption,by assumption,by assumption,by assumption,by assumption,by assumption,by assumption,by assumption,by assumption,by assumption,by assumption,by assumption⟩ (ze (zof _ _)))
   |go_keep)
  (fail)
 obtain⟨E,hWv⟩:∃E,E=(w.alloc (.cells #[.pointer (some ⟨q,0,none⟩),.int .i64 x.head,.int .i64 x.r.h,.int .i64 x.r.f,.slice O x.cases.n x.cases.c,.int .i64 x.els,.int .u64 (s.must:Int),.int .u64 (s.may:Int),.int .i64 (s.least:Int),.int .i64 (s.most:Int),.bool true] 234)).drew:=⟨_,rfl⟩;obtain⟨v,hv⟩:∃v,v=w.heap.size:=⟨_,rfl⟩;have bv:Below w.heap.size w E:=by rw[hWv];exact(ze (zof _ _)).drew
 have I:Hid (∀i,i<11->E.cell? ⟨v,i,none⟩=(#[.pointer (some ⟨q,0,none⟩),.int .i64 x.head,.int .i64 x.r.h,.int .i64 x.r.f,.slice O x.cases.n x.cases.c,.int .i64 x.els,.int .u64 (s.must:Int),.int .u64 (s.may:Int),.int .i64 (s.least:Int),.int .i64 (s.most:Int),.bool true]:Array Value)[i]?):=fun i hi=>by rw[hWv,hv];exact zod _ _ _ _ rfl
 rw[<-hWv,<-hv];have b0:=hid (But.of bv (Nat.le_of_lt J.out));have X:=hid bv;have f2:v≠g:=by have:=J.out;omega
 clear hWv hv bv z0 z2 z7 k0 k1 k2 k3 k4 a0 a1 a2 a3 a4 g4 f3 f6;have c0:E.cell? ⟨v,0,none⟩=some (.pointer (some ⟨q,0,none⟩)):=I.out 0 (by decide)
 have c1:E.cell? ⟨v,1,none⟩=some (.int .i64 x.head):=I.out 1 (by decide)
 have c2:E.cell? ⟨v,2,none⟩=some (.int .i64 x.r.h):=I.out 2 (by decide)
 have c3:E.cell? ⟨v,3,none⟩=some (.int .i64 x.r.f):=I.out 3 (by decide)
 have c4:E.cell? ⟨v,4,none⟩=some (.slice O x.cases.n x.cases.c):=I.out 4 (by decide)
 have c5:E.cell? ⟨v,5,none⟩=some (.int .i64 x.els):=I.out 5 (by decide)
 have c6:E.cell? ⟨v,6,none⟩=some (.int .u64 (s.must:Int)):=I.out 6 (by decide)
 have c7:E.cell? ⟨v,7,none⟩=some (.int .u64 (s.may:Int)):=I.out 7 (by decide)
 have c8:E.cell? ⟨v,8,none⟩=some (.int .i64 (s.least:Int)):=I.out 8 (by decide)
 have c9:E.cell? ⟨v,9,none⟩=some (.int .i64 (s.most:Int)):=I.out 9 (by decide)
 have c10:E.cell? ⟨v,10,none⟩=some (.bool true):=I.out 10 (by decide)
 go_wp2_with fail
 refine(e1.out _).mono ?_;rintro e w1 ⟨rfl,b⟩;have D:=hid (b0.out.trans (But.of b (zoz (Nat.le_of_lt J.out) b0.out.size)));have W:=hid (zh X.out b);clear e1 b0 I X;have d0:=za c0 b;have d1:=za c1 b;have d2:=za c2 b;have d3:=za c3 b;have d4:=za c4 b;have d5:=za c5 b;have d6:=za c6 b;have d7:=za c7 b;have d8:=za c8 b;have d9:=za c9 b;have e8:=za c10 b;clear c0 c1 c2 c3 c4 c5 c6 c7 c8 c9 c10 b;by_cases hC:yP x.p s=0
 ·have HE:Hid (∀w',But g w w'->Ahd g (Wk.leadTo A r (kv d.states.n (ye x.p))) w'->zaR g (yP x.p s) (Wk.leadTo A (Wk.shiftS (zv x.head) (szP d.p x.p) s) (kv d.states.n (ye x.p))) w (.returned (.int .i64 0)) w'):=fun w' M h2=>⟨by rw[hC],M,fun _=>by rw[<-b7.out];exact h2⟩
  rw[hC];clear hC;have e2:=D;go_wp2_with fail
  refine(a5.out _ D.out).mono ?_;rintro e w2 ⟨rfl,t⟩;clear a5;have P:=za d0 t;have e4:=za d4 t;have e5:=za d5 t;have f1:v<w2.heap.size:=zog w2 _ P;obtain⟨Q,hW3⟩:∃Q,Q=w2.alloc (.cells #[.int .u64 (r.must:Int),.int .u64 (r.may:Int),.int .i64 (r.least:Int),.int .i64 (r.most:Int),.bool r.there] 157):=⟨_,rfl⟩;obtain⟨u,hu⟩:∃u,u=w2.heap.size:=⟨_,rfl⟩;have b3:Below w2.heap.size w2 Q:=by rw[hW3];exact ze (zof _ _)
  have F3:Hid (Five Q u 0 r):=by rw[hW3,hu];refine⟨?_,?_,?_,?_,?_⟩<;>exact(zod _ _ _ _ rfl).trans rfl
  have g1:g<=w1.heap.size:=zoz (Nat.le_of_lt J.out) D.out.size;have f7:=hid ((D.out.trans (But.of t g1)).trans (But.of b3 (zoz g1 t.size)));have h8:u≠g:=by have:=J.out;have:=D.out.size;have:=t.size;omega
  have a9:Hid (Q.cell? ⟨v,0,none⟩=some (.pointer (some ⟨q,0,none⟩))/\Q.cell? ⟨v,4,none⟩=some (.slice O x.cases.n x.cases.c)/\Q.cell? ⟨v,5,none⟩=some (.int .i64 x.els)):=⟨za P b3,za e4 b3,za e5 b3⟩;have g6:Hid (Ahd g A Q):=HA.out.step (zh (zh W.out t) b3);have i0:x.cases.n<=4:=by have M:x.cs.length<=4:=HO.out.few;have:=f0.out;omega
  have E3:=hid hW3;have EU:=hid hu;have h5:Hid (∀(j:Nat) (c:CaseD),x.cs[j]?=some c->c.to∈ye x.p):=fun j c h=>List.mem_append_left _ (zoJ.2 ⟨c,zol h,rfl⟩)
  have f8:Hid (x.els∈ye x.p):=List.mem_append_right _ List.mem_cons_self;have U:Hid (∀j,Few (qk d.states.n A r x.cs j)/\(qk d.states.n A r x.cs j).length=d.states.n+1):=fun j=>by
   have:=zdK (n:=d.states.n) b5.out ((x.cs.take j).map CaseD.to) HF.out;exact⟨this.1,this.2.trans e3.out⟩
  clear d0 d1 d2 d3 d4 d5 d6 d7 d8 d9 e8 hW3 hu b3 t W D e2 HA g1 HF e3 H9 h0 h6 g3 HC b7 b5;go_wp2;rw[<-E3.out,<-EU.out];clear E3 EU P e4 e5 f1;obtain⟨P,e4,e5⟩:=a9.out;go_loopw [47,9] (fun qv _ wr=>∃j:Nat,j<=x.cases.n/\qv=.int .i64 j/\Hid (Ahd g (qk d.states.n A r x.cs j) wr)/\Hid (But g Q wr)) (fun qv _ _=>x.cases.n-(intOf qv).toNat)
  case atStart=>exact⟨0,zon _,rfl,g6,But.refl _ _⟩
  case round=>
   obtain⟨j,hj,rfl,G,F⟩:=hrel;clear P e4 e5;have P:=F.out.cell f2 a9.out.1;have e5:=F.out.cell f2 a9.out.2.2;obtain⟨p0,p1,p2,p3,p4⟩:=F.out.five h8 F3.out;simp only[zoK]at p1 p2 p3 p4;have y:=hid (f7.out.trans F.out);by_cases g5:j<x.cases.n
   ·have g8:(j:Int)<(x.cases.n:Int):=by omega
    obtain⟨cg,co,c,l,a8,f4⟩:=zu (f9.out _ y.out) g5;obtain rfl:O=some ⟨cg,co,none⟩:=by rw[<-f5.out];exact l
    obtain⟨⟨q0,_⟩,⟨q1,_⟩,⟨q2,_⟩⟩:=f4;have b8:Hid (∀o,Calls Tryz.prog 147 #[.pointer (some ⟨q,0,none⟩),.int .i64 c.to,.agg #[.int .u64 (r.must:Int),.int .u64 (r.may:Int),.int .i64 (r.least:Int),.int .i64 (r.most:Int),.bool r.there]] (wr.alloc o) (jA g (xP d.states.n (qk d.states.n A r x.cs j) r c.to) (wr.alloc o))):=fun o=>
     S.out _ _ _ (y.out.trans (But.of (ze (zof _ _)) (Nat.le_of_lt G.out.lt))) (G.out.step (ze (zof _ _))) (U.out j).1 (U.out j).2 (h5.out j c a8)
    have b6:=hid (zgq (n:=d.states.n) (A:=A) (s:=r) a8);have g2:Hid (g<wr.heap.size):=G.out.lt;have i3:v<wr.heap.size:=zog _ _ P;have i4:u<wr.heap.size:=zog _ _ p0;clear a8 l G;go_wp2_with fail
    refine(b8.out _).mono ?_;rintro e w4 ⟨rfl,K,N⟩;have RA:Hid (Ahd g (qk d.states.n A r x.cs (j+1)) w4):=by show Ahd g _ w4;rw[b6.out];exact K
    have RB:=hid (F.out.trans ((But.of (ze (zof _ _)) (Nat.le_of_lt g2.out)).trans N));clear b8 K N F b6 q0 q1 q2 p0 p1 p2 p3 p4 P e5;go_wp2;go_roundw
    case rel=>exact⟨j+1,by omega,by go_num,RA,RB⟩
    case measure=>simp[intOf];omega
   ·have ej:j=x.cases.n:=by omega
    have g8:¬(j:Int)<(x.cases.n:Int):=by omega
    have e7:=hid (S.out _ _ _ y.out G.out (U.out j).1 (U.out j).2 f8.out);have h3:=hid (ziG (n:=d.states.n) (A:=A) (s:=r) (x:=x.p));have h4:Hid (qk d.states.n A r x.cs j=qk d.states.n A r x.p.cs x.p.cs.length):=by show _=qk d.states.n A r x.cs x.cs.length;rw[ej,f0.out]
    clear S G ej;go_wp2_with fail
    refine e7.out.mono ?_;rintro e w4 ⟨rfl,K,N⟩;have HF:=hid (HE.out w4 (y.out.trans N) (by rw[<-h3.out,<-h4.out];exact K))
    clear e7 K N HE F y p0 p1 p2 p3 p4 P e5;go_wp2;go_ret;exact HF.out
 ·have i2:(yP x.p s !=0)=true:=by rw[bne_iff_ne];exact hC
  have HE:Hid (zaR g (yP x.p s) (Wk.leadTo A (Wk.shiftS (zv x.head) (szP d.p x.p) s) (kv d.states.n (ye x.p))) w (.returned (.int .i64 (yP x.p s))) w1):=⟨rfl,D.out,fun h=>absurd h hC⟩
  generalize yP x.p s=C at*;clear hC a5 S d0 d1 d2 d3 d4 d5 d6 d7 d8 d9 e8;go_wp2;go_ret;exact HE.out
theorem Tryz.infoSets:(Tryz.prog.info? 157).map (fun i=>(i.zero,i.size,i.bytes))=some (some (.agg #[.int .u64 0,.int .u64 0,.int .i64 0,.int .i64 0,.bool false]),5,40):=by kernel_rfl
@[reducible] def zan(n:Nat):Array Value:=madeCells #[.int .u64 0,.int .u64 0,.int .i64 0,.int .i64 0,.bool false] (n*5)
theorem znW(n i k:Nat)(hi:i<n)(b:k<5):(zan n)[i*5+k]?=(#[.int .u64 0,.int .u64 0,.int .i64 0,.int .i64 0,.bool false]:Array Value)[k]?:=by
 unfold zan madeCells;have a:i*5+k<n*5:=by omega
 rw[Array.getElem?_map,Array.getElem?_range,if_pos a];have h2:(i*5+k)%5=k:=by omega
 show some ((#[.int .u64 0,.int .u64 0,.int .i64 0,.int .i64 0,.bool false]:Array Value)[(i*5+k)%5]!)=_;rw[h2];rcases(show k=0\/k=1\/k=2\/k=3\/k=4 by omega)with rfl|rfl|rfl|rfl|rfl<;>rfl
theorem zfw(w:World)(n:Nat)(T:TypeId):Ahd w.heap.size (List.replicate n Wk.zero) (w.alloc (.cells (zan n) T)):=by
 refine⟨fun i s hs=>?_,fun o=>zoB _ _ _ _ rfl,by simp⟩
 have hi:i<n:=by have:=(zok.1 hs).1;simpa using this
 rw[List.getElem?_replicate,if_pos hi]at hs;cases hs
 have c:∀k,k<5->(w.alloc (.cells (zan n) T)).cell? ⟨w.heap.size,i*5+k,none⟩=(#[.int .u64 0,.int .u64 0,.int .i64 0,.int .i64 0,.bool false]:Array Value)[k]?:=fun k a=>(zod _ _ _ _ rfl).trans (znW n i k hi a)
 exact⟨c 0 (by decide),c 1 (by decide),c 2 (by decide),c 3 (by decide),c 4 (by decide)⟩
theorem ziP{g n:Nat}{w:World}(h:Ahd g (List.replicate (n+1) Wk.zero) w):Ahd g (Wk.start n) (w.setCell ⟨g,4,none⟩ (.bool true)):=by
 have h0:=h.cs 0 Wk.zero (by simp)
 rw[Nat.zero_mul]at h0;refine⟨fun i s hs=>?_,fun o=>by rw[World.frozen?_setCell];exact h.fz o,by rw[zow];exact h.lt⟩
 unfold Wk.start at hs;rw[List.getElem?_set]at hs;by_cases e:0=i
 ·subst e;rw[if_pos rfl,if_pos (by simp)]at hs
  cases hs
  rw[Nat.zero_mul];exact⟨zp h0.c0 (by omega),zp h0.c1 (by omega),zp h0.c2 (by omega),zp h0.c3 (by omega),zot _ _ _ h0.c4⟩
 ·rw[if_neg e]at hs;have hf:=h.cs i s hs;exact⟨zp hf.c0 (by omega),zp hf.c1 (by omega),zp hf.c2 (by omega),zp hf.c3 (by omega),zp hf.c4 (by omega)⟩
def APp(p:PPlan)(h:(zD p).1=0)(m:Nat):List Wk.Sets:=Wk.AP (yj p h) m
theorem jS{p:PPlan}(h:(zD p).1=0){m:Nat}(a:m<=p.ss.length):Wk.Inv (yj p h) m (APp p h m):=Wk.inv_AP _ m a
theorem zei{p:PPlan}(h:(zD p).1=0){m:Nat}(a:m<=p.ss.length):∀s∈APp p h m,s.must<2^6/\s.may<2^6/\s.least<=256/\s.most<=256:=fun s hs=>by
 obtain⟨i,hi,rfl⟩:=zoR hs;have hinv:=jS h a;have d:(APp p h m).length=p.ss.length+1:=hinv.1;have ha:=hinv.2 i (by show i<=p.ss.length;omega)
 have e:(APp p h m).getD i Wk.zero=(APp p h m)[i]:=by rw[zoi,zoh hi];rfl
 rw[e]at ha;have c:(p.ss.length:Int)<=8:=(zB h 2 (by decide)).2.1
 exact ha.small fun t b hw=>by
  have:=Wk.wyN_small (K:=6) (Z:=32) (zeg h) (zeh h) a hw;exact⟨this.1,by omega⟩
def qL(p:PPlan)(C A:Int):Prop:=((zD p).1≠0/\C=(zD p).1/\A=(zD p).2)\/∃h:(zD p).1=0,zgn p (APp p h p.ss.length) C A
def SetsRow(w:World)(a:Option Addr)(n:Nat)(S:List Wk.Sets):Prop:=S.length=n/\∃g,a=some ⟨g,0,none⟩/\∀i s,S[i]?=some s->Five w g (i*5) s
theorem SetsRow.step{w w':World}{a:Option Addr}{n:Nat}{S:List Wk.Sets}(h:SetsRow w a n S)(b:Below w.heap.size w w'):SetsRow w' a n S:=by
 obtain⟨c,g,e,h2⟩:=h;exact⟨c,g,e,fun i s hs=>(h2 i s hs).step b⟩
def yR(p:PPlan)(w:World)(e:Ending)(w':World):Prop:=∃(C A:Int) (a:Option Addr) (n c:Nat),e=.returned (.tuple #[.slice a n c,.agg #[.int .i64 C,.int .i64 A]])/\qL p C A/\(C≠0->a=none/\n=0/\c=0)/\(∀h:(zD p).1=0,C=0->SetsRow w' a n (APp p h p.ss.length))/\Below w.heap.size w w'
structure WlkAt (d : PlanD) (w W2 : World) (s f : Nat) : Prop where
 cs : W2.cell? ⟨s, 0, none⟩ = some (.slice d.heads.a d.heads.n d.heads.c) /\ W2.cell? ⟨s, 1, none⟩ = some (.slice d.mta.a d.mta.n d.mta.c) /\ W2.cell? ⟨s, 2, none⟩ = some (.slice d.states.a d.states.n d.states.c) /\ W2.cell? ⟨s, 3, none⟩ = some (.slice d.acts.a d.acts.n d.acts.c) /\ W2.cell? ⟨s, 4, none⟩ = some (.slice d.tabs.a d.tabs.n d.tabs.c) /\ W2.cell? ⟨s, 5, none⟩ = some (.slice d.nodes.a d.nodes.n d.nodes.c) /\ W2.cell? ⟨s, 6, none⟩ = some (.slice d.out.a d.out.n d.out.c)
 f0 : W2.cell? ⟨f, 0, none⟩ = some (.int .i64 0)
 f1 : W2.cell? ⟨f, 1, none⟩ = some (.int .i64 0)
 fz : ∀ o, W2.frozen? ⟨f, o, none⟩ = false
 fl : f < W2.heap.size
 wf : w.heap.size <= f
 sl : s < f
theorem zaS(d:PlanD)(w:World):WlkAt d w ((w.alloc (.cells #[.slice d.heads.a d.heads.n d.heads.c,.slice d.mta.a d.mta.n d.mta.c,.slice d.states.a d.states.n d.states.c,.slice d.acts.a d.acts.n d.acts.c,.slice d.tabs.a d.tabs.n d.tabs.c,.slice d.nodes.a d.nodes.n d.nodes.c,.slice d.out.a d.out.n d.out.c] 29)).alloc (.cells #[.int .i64 0,.int .i64 0] 34)) w.heap.size (w.heap.size+1):=by
 refine⟨⟨?_,?_,?_,?_,?_,?_,?_⟩,?_,?_,fun o=>?_,by simp,by omega,by omega⟩
 ·exact(zoe _ _ _ (by simp)).trans ((zod _ _ _ _ rfl).trans rfl)
 ·exact(zoe _ _ _ (by simp)).trans ((zod _ _ _ _ rfl).trans rfl)
 ·exact(zoe _ _ _ (by simp)).trans ((zod _ _ _ _ rfl).trans rfl)
 ·exact(zoe _ _ _ (by simp)).trans ((zod _ _ _ _ rfl).trans rfl)
 ·exact(zoe _ _ _ (by simp)).trans ((zod _ _ _ _ rfl).trans rfl)
 ·exact(zoe _ _ _ (by simp)).trans ((zod _ _ _ _ rfl).trans rfl)
 ·exact(zoe _ _ _ (by simp)).trans ((zod _ _ _ _ rfl).trans rfl)
 ·exact(zod _ _ _ _ (by simp)).trans rfl
 ·exact(zod _ _ _ _ (by simp)).trans rfl
 ·exact zoB _ _ _ _ (by simp)
theorem WlkAt.step{d:PlanD}{w a c:World}{s f:Nat}(h:WlkAt d w a s f)(b:Below a.heap.size a c):WlkAt d w c s f:=
 ⟨kW h.cs b,za h.f0 b,za h.f1 b,fun o=>(b.frozen (p:=⟨f,o,none⟩) h.fl).trans (h.fz o),zom h.fl b.size,h.wf,h.sl⟩
theorem zk1(d:PlanD)(w:World)(t:d.lie w)(hs:d.small)(m:(zD d.p).1≠0):Calls Tryz.prog 66 #[d.v] w (yR d.p w):=by
 obtain⟨j,hW⟩:∃j,j=((w.alloc (.cells #[.slice d.heads.a d.heads.n d.heads.c,.slice d.mta.a d.mta.n d.mta.c,.slice d.states.a d.states.n d.states.c,.slice d.acts.a d.acts.n d.acts.c,.slice d.tabs.a d.tabs.n d.tabs.c,.slice d.nodes.a d.nodes.n d.nodes.c,.slice d.out.a d.out.n d.out.c] 29)).alloc (.cells #[.int .i64 0,.int .i64 0] 34)):=⟨_,rfl⟩;obtain⟨s,es⟩:∃s,s=w.heap.size:=⟨_,rfl⟩;obtain⟨f,ef⟩:∃f,f=w.heap.size+1:=⟨_,rfl⟩;have l:Hid (WlkAt d w j s f):=by rw[hW,es,ef];exact zaS d w
 have q:Hid (Below w.heap.size w j):=by rw[hW];exact ze (ze (zof _ _))
 have i:=hid (zcT d j (t.step q.out) hs);have y:Hid (∀w',Below w.heap.size w w'->yR d.p w (.returned (.tuple #[.slice none 0 0,.agg #[.int .i64 (zD d.p).1,.int .i64 (zD d.p).2]])) w'):=fun w' h=>⟨_,_,none,0,0,rfl,.inl ⟨m,rfl,rfl⟩,fun _=>⟨rfl,rfl,rfl⟩,fun E=>absurd E m,h⟩
 have F:((zD d.p).1 !=0)=true:=by rw[bne_iff_ne];exact m
 have u:=hid hW;have x:=hid es;have B:=hid ef;clear t hs m hW es ef;generalize(zD d.p).1=C at*;generalize(zD d.p).2=A at*;go_enter Tryz.func66,Tryz.ntmps66
 go_wp2_with fail
 rw[<-u.out,<-B.out,<-x.out];refine i.out.mono ?_;rintro e r ⟨rfl,g⟩;clear i u x B;have b:=hid (l.out.step g);have k:=hid (zh q.out g);have c0:=b.out.f0;have c1:=b.out.f1;have z0:=b.out.fz 0;have z1:=b.out.fz 1;have D:f<r.heap.size:=b.out.fl;have G:Hid (∀o,yR d.p w (.returned (.tuple #[.slice none 0 0,.agg #[.int .i64 C,.int .i64 A]])) (((r.setCell ⟨f,0,none⟩ (.int .i64 C)).setCell ⟨f,1,none⟩ (.int .i64 A)).alloc o).drew):=fun o=>y.out _ (ze ((k.out.setCell (p:=⟨f,0,none⟩) l.out.wf _).setCell (p:=⟨f,1,none⟩) l.out.wf _)).drew
 clear l q b y k g;go_wp2_with fail
 go_region
 all_goals
  go_wp2;exact bodyPost_ret (v:=.tuple #[.slice none 0 0,.agg #[.int .i64 C,.int .i64 A]]) (by simp[results,Tryz.results66,go_sem, *]) rfl (G.out _)
theorem zme{p:PPlan}(h:(zD p).1=0){k:Nat}{s:Wk.Sets}{x:PState}(hs:(APp p h k)[k]?=some s)(b:p.ss.getD k PState.z=x):APp p h (k+1)=if s.there=true then Wk.leadTo (APp p h k) (Wk.shiftS (zv x.head) (szP p x) s) (kv p.ss.length (ye x))else APp p h k:=by
 have e:(APp p h k).getD k Wk.zero=s:=by rw[zoi,hs];rfl
 show Wk.goOver (yj p h) (APp p h k) k=_;unfold Wk.goOver;rw[e];by_cases a:s.there=true
 ·rw[if_pos a,if_pos a];show Wk.leadTo (APp p h k) (Wk.shiftS (zv (p.ss.getD k PState.z).head) (szP p (p.ss.getD k PState.z)) s) (kv p.ss.length (ye (p.ss.getD k PState.z)))=_;rw[b]
 ·rw[if_neg a,if_neg a]
theorem znc{p:PPlan}(h:(zD p).1=0){k m:Nat}(b:k<=m)(a:m<=p.ss.length):(APp p h k).getD k Wk.zero=(APp p h m).getD k Wk.zero:=
 (((jS h (zoz b a)).2 k (zoz b a)).congr (Wk.wyN_all (zoz b a) (zos k))).one (((jS h a).2 k (zoz b a)).congr (Wk.wyN_all a b))
theorem znd{d:PlanD}{j w:World}{q g k:Nat}(l:d.lie j)(hw:Below j.heap.size j w)(E:j.heap.size<=g)(a:(zD d.p).1=0)(hb:WkB d q g w)(ha:Ahd g (APp d.p a k) w)(A:k<d.states.n):
 Calls Tryz.prog 104 #[.pointer (some ⟨q,0,none⟩),.int .i64 k] w (zaR g (yp d.p (APp d.p a d.p.ss.length) k) (APp d.p a (k+1)) w):=by
 have B:d.p.ss.length=d.states.n:=by simp[PlanD.p,l.ss.1]
 have b:(APp d.p a k).length=d.states.n+1:=by rw[<-B];exact(jS a (by omega)).1
 have f:=zei a (m:=k) (by omega)
 have u:k<(APp d.p a k).length:=by omega
 obtain⟨x,hx⟩:∃x,d.ss[k]?=some x:=⟨d.ss[k]'(by rw[l.ss.1];exact A),zoh _⟩
 have hs:(APp d.p a k)[k]?=some (APp d.p a k)[k]:=zoh u;generalize(APp d.p a k)[k]=s at hs;have t:s∈APp d.p a k:=zol hs;have o:(APp d.p a k).getD k Wk.zero=s:=by rw[zoi,hs];rfl
 have i:=znc a (k:=k) (m:=d.p.ss.length) (by omega) (zos _)
 have c:yp d.p (APp d.p a d.p.ss.length) k=if s.there=true then yP x.p s else 0:=by
  unfold yp;rw[<-i,o,zfs hx]
 have e:=zme a hs (zfs hx);rw[c,e];cases C:s.there with
 |false=>
  simp only[Bool.false_eq_true,if_false];exact znU k hb ha hs b C
 |true=>
  simp only[if_true];rw[B];have r:Few (APp d.p a k):=fun y D=>by have:=f y D;exact⟨this.1,this.2.1,by omega,by omega⟩
  exact znb (l.step hw) a hb ha r b A hx hs C (by have:=f s t;omega) fun w' h=>l.step (hw.trans (h.low.mono E))
theorem ziQ(d:PlanD)(w:World)(hl:d.lie w)(hs:d.small)(hc:(zD d.p).1=0):Calls Tryz.prog 66 #[d.v] w (yR d.p w):=by
 obtain⟨Y,hW⟩:∃Y,Y=((w.alloc (.cells #[.slice d.heads.a d.heads.n d.heads.c,.slice d.mta.a d.mta.n d.mta.c,.slice d.states.a d.states.n d.states.c,.slice d.acts.a d.acts.n d.acts.c,.slice d.tabs.a d.tabs.n d.tabs.c,.slice d.nodes.a d.nodes.n d.nodes.c,.slice d.out.a d.out.n d.out.c] 29)).alloc (.cells #[.int .i64 0,.int .i64 0] 34)):=⟨_,rfl⟩;obtain⟨s,es⟩:∃s,s=w.heap.size:=⟨_,rfl⟩;obtain⟨f,ef⟩:∃f,f=w.heap.size+1:=⟨_,rfl⟩;have HA:Hid (WlkAt d w Y s f):=by rw[hW,es,ef];exact zaS d w
 have HB:Hid (Below w.heap.size w Y):=by rw[hW];exact ze (ze (zof _ _))
 have b4:=hid (zcT d Y (hl.step HB.out) hs);have en:d.p.ss.length=d.states.n:=by simp[PlanD.p,hl.ss.1]
 have T:d.states.n<=8:=by have:(d.p.ss.length:Int)<=8:=(zB hc 2 (by decide)).2.1;omega
 obtain⟨m,hm⟩:∃m,m=d.states.n+1:=⟨_,rfl⟩;obtain⟨i0,hi,b2,a3,b1⟩:=info_parts Tryz.infoSets;have I:∀W:World,(Instr.makeSlice 151 (.int .i64 (IntKind.i64.wrap ((d.states.n:Int)+1))) (.int .i64 (IntKind.i64.wrap ((d.states.n:Int)+1)))).run Tryz.prog W=.ok (.slice (some ⟨W.heap.size,0,none⟩) m m) (W.alloc (.cells (zan m) 157)):=fun W=>by
  rw[zX _ (by omega) (by omega)]
  have h:=run_make (P:=Tryz.prog) W 151 157 i0 _ Tryz.underlying151 hi b2 .i64 .i64 ((d.states.n:Int)+1) ((d.states.n:Int)+1) (by omega) (by omega) (by rw[b1];omega) (by omega)
  rw[show((d.states.n:Int)+1).toNat=m by omega,a3]at h
  exact h
 have a4:=hid I;have EW:=hid hW;have ES:=hid es;have EF:=hid ef;have HL:=hid hl;have HC:=hid hc;have EN:=hid en;have a8:=hid T;have HM:=hid hm;clear hl hs hc hW es ef hi b2 a3 b1 en T hm I;go_enter Tryz.func66,Tryz.ntmps66
 go_wp2_with fail
 rw[<-EW.out,<-EF.out,<-ES.out];refine b4.out.mono ?_;rintro e w1 ⟨rfl,a9⟩;rw[HC.out];clear b4 EW ES EF;generalize(zD d.p).2=A;obtain⟨D,hW3⟩:∃D,D=w1.alloc (.cells #[.int .i64 0,.int .i64 A] 34):=⟨_,rfl⟩;have b3:Below Y.heap.size Y D:=by rw[hW3];exact ze a9
 have F:=hid (HA.out.step b3);have O:=hid (zh HB.out b3);have a7:=hid hW3;clear a9 b3 HA HB hW3;go_wp2_with fail
 rw[<-a7.out];clear a7;obtain⟨z0,z1,z2,z3,z4,z5,z6⟩:=F.out.cs;have I:=a4.out;clear a4;go_region_held3 (fun w'=>w'.cell? ⟨s,0,none⟩=some (.slice d.heads.a d.heads.n d.heads.c)/\w'.cell? ⟨s,1,none⟩=some (.slice d.mta.a d.mta.n d.mta.c)/\w'.cell? ⟨s,2,none⟩=some (.slice d.states.a d.states.n d.states.c)/\w'.cell? ⟨s,3,none⟩=some (.slice d.acts.a d.acts.n d.acts.c)/\w'.cell? ⟨s,4,none⟩=some (.slice d.tabs.a d.tabs.n d.tabs.c)/\w'.cell? ⟨s,5,none⟩=some (.slice d.nodes.a d.nodes.n d.nodes.c)/\w'.cell? ⟨s,6,none⟩=some (.slice d.out.a d.out.n d.out.c))
  (first
   |(go_split_ands;with_reducible exact kW ⟨by assumption,by assumption,by assumption,by assumption,by assumption,by assumption,by assumption⟩ (ze (zof _ _)))
   |go_keep)
  (fail)
 clear I z0 z1 z2 z3 z4 z5 z6;obtain⟨g,hg⟩:∃g,g=D.heap.size:=⟨_,rfl⟩;obtain⟨q,hq⟩:∃q,q=D.heap.size+1:=⟨_,rfl⟩;obtain⟨K,hW5⟩:∃K,K=((D.alloc (.cells (zan m) 157)).alloc (.cells #[.slice d.heads.a d.heads.n d.heads.c,.slice d.mta.a d.mta.n d.mta.c,.slice d.states.a d.states.n d.states.c,.slice d.acts.a d.acts.n d.acts.c,.slice d.tabs.a d.tabs.n d.tabs.c,.slice d.nodes.a d.nodes.n d.nodes.c,.slice d.out.a d.out.n d.out.c,.slice (some ⟨D.heap.size,0,none⟩) m m] 186)).drew:=⟨_,rfl⟩;have b5:Below D.heap.size D K:=by rw[hW5];exact(ze (ze (zof _ _))).drew
 have a5:Ahd g (List.replicate (d.states.n+1) Wk.zero) K:=by
  rw[hW5,hg,<-HM.out];exact((zfw D m 157).step (ze (zof _ _))).step (zof _ _).drew
 have U:q≠g:=by omega
 have k5:WkB d q g K:=by
  refine⟨?_,?_,?_,U⟩
  ·rw[hW5,hq];exact(zod _ _ _ _ (by simp)).trans rfl
  ·rw[hW5,hq];exact(zod _ _ _ _ (by simp)).trans rfl
  ·rw[hW5,hq,hg,<-HM.out];exact(zod _ _ _ _ (by simp)).trans rfl
 rw[<-hW5,<-hq,<-hg];have b:=hid (F.out.step b5);have a2:s≠g:=by
  have h:s<D.heap.size:=zog D _ F.out.cs.1;omega
 have E:f≠g:=by have:=F.out.fl;omega
 have S:w.heap.size<=g:=by rw[hg];exact O.out.size
 obtain⟨r,hW6⟩:∃r,r=K.setCell ⟨g,4,none⟩ (.bool true):=⟨_,rfl⟩;have J:But g K r:=by rw[hW6];exact set_but
 have c1:Hid (Ahd g (APp d.p HC.out 0) r):=by
  show Ahd g (Wk.start d.p.ss.length) r;rw[hW6,EN.out];exact ziP a5
 have a1:=hid (k5.but J);have Z:Hid (Below w.heap.size w r):=(zh O.out b5).trans (J.low.mono S);have l:Hid (r.cell? ⟨s,2,none⟩=some (.slice d.states.a d.states.n d.states.c)/\r.cell? ⟨f,0,none⟩=some (.int .i64 0)/\r.cell? ⟨f,1,none⟩=some (.int .i64 0)/\(∀o,r.frozen? ⟨f,o,none⟩=false)/\f<r.heap.size):=⟨J.cell a2 b.out.cs.2.2.1,J.cell E b.out.f0,J.cell E b.out.f1,fun o=>(J.frozen E b.out.fl).trans (b.out.fz o),zom b.out.fl J.size⟩
 have b6:Hid (w.heap.size<=f):=b.out.wf;have c7:=k5.h7;have b7:(0:Int)<(m:Int):=by have:=HM.out;omega
 rw[<-HM.out]at c7;have y4:=(a5.cs 0 Wk.zero (by simp)).c4
 simp only[Nat.zero_mul,zoK]at y4;have c0:=a5.fz 4;have x2:K.cell? ⟨s,2,none⟩=some (.slice d.states.a d.states.n d.states.c):=b.out.cs.2.2.1;have E6:=hid hW6;have c3:=hid U;have G:=hid E;have c5:=hid a2;have M:=hid S;clear hW5 hq hg b5 a5 k5 b F O J hW6 S E;go_wp2;rw[<-E6.out];have a6:Hid (∀k wr,But g r wr->Ahd g (APp d.p HC.out k) wr->k<d.states.n->Calls Tryz.prog 104 #[.pointer (some ⟨q,0,none⟩),.int .i64 k] wr (zaR g (yp d.p (APp d.p HC.out d.p.ss.length) k) (APp d.p HC.out (k+1)) wr)):=fun k wr h1 h2 h3=>znd HL.out (Z.out.trans (h1.low.mono M.out)) M.out HC.out (a1.out.but h1) h2 h3
 have V:Hid (∀wr,But g r wr->wr.cell? ⟨f,0,none⟩=some (.int .i64 0)/\wr.cell? ⟨f,1,none⟩=some (.int .i64 0)/\wr.frozen? ⟨f,0,none⟩=false/\wr.frozen? ⟨f,1,none⟩=false/\wr.cell? ⟨q,7,none⟩=some (.slice (some ⟨g,0,none⟩) m m)):=fun wr h=>⟨h.cell G.out l.out.2.1,h.cell G.out l.out.2.2.1,(h.frozen G.out l.out.2.2.2.2).trans (l.out.2.2.2.1 0),(h.frozen G.out l.out.2.2.2.2).trans (l.out.2.2.2.1 1),by have:=(a1.out.but h).h7;rwa[<-HM.out]at this⟩
 have X:Hid (∀wr x y,But g r wr->Below w.heap.size w ((wr.setCell ⟨f,0,none⟩ x).setCell ⟨f,1,none⟩ y)):=fun wr x y h=>((Z.out.trans (h.low.mono M.out)).setCell (p:=⟨f,0,none⟩) b6.out _).setCell (p:=⟨f,1,none⟩) b6.out _
 clear E6 c7 y4 c0 x2 a2 b7 U l a1 Z;go_loopw [31,6,7] (fun qv _ _ wr=>∃k:Nat,k<=d.states.n/\qv=.int .i64 k/\Hid (Ahd g (APp d.p HC.out k) wr)/\Hid (But g r wr)/\Hid (∀j,j<k->yp d.p (APp d.p HC.out d.p.ss.length) j=0)) (fun qv _ _ _=>d.states.n-(intOf qv).toNat)
 case atStart=>exact⟨0,zon _,rfl,c1,But.refl _ _,fun j hj=>absurd hj (zoN _)⟩
 case round=>
  obtain⟨k,hk,rfl,H,u,B⟩:=hrel;by_cases b0:k<d.states.n
  ·have b9:(k:Int)<(d.states.n:Int):=by omega
   have HG:=hid (a6.out k wr u.out H.out b0);have b8:IntKind.i64.wrap (3000+(k:Int))=3000+(k:Int):=zX _ (by omega) (by have:=a8.out;omega)
   clear H;go_wp2_with fail
   refine HG.out.mono ?_;rintro e w4 ⟨rfl,a0,L⟩;have R:=hid (u.out.trans a0);have Q:=hid L;obtain⟨y0,y1,f0,f1,_⟩:=V.out w4 R.out;obtain⟨C,eC⟩:∃C,C=yp d.p (APp d.p HC.out d.p.ss.length) k:=⟨_,rfl⟩;rw[<-eC];by_cases N:C=0
   ·have RA:=hid (Q.out (by rw[<-eC];exact N))
    have RP:Hid (∀j,j<k+1->yp d.p (APp d.p HC.out d.p.ss.length) j=0):=fun j hj=>by
     by_cases e:j=k
     ·subst e;rw[<-eC];exact N
     ·exact B.out j (by omega)
    subst N;have T:=a8.out;clear b8;clear HG a0 L Q B u eC y0 y1 f0 f1;go_wp2;go_roundw
    case rel=>exact⟨k+1,by omega,by go_num,RA,R,RP⟩
    case measure=>simp[intOf];omega
   ·have c2:(C !=0)=true:=by rw[bne_iff_ne];exact N
    have HE:Hid (yR d.p w (.returned (.tuple #[.slice none 0 0,.agg #[.int .i64 C,.int .i64 (3000+(k:Int))]])) ((w4.setCell ⟨f,0,none⟩ (.int .i64 C)).setCell ⟨f,1,none⟩ (.int .i64 (3000+(k:Int))))):=⟨C,3000+(k:Int),none,0,0,rfl,.inr ⟨HC.out,.inl ⟨k,by rw[EN.out];exact b0,by rw[<-eC];exact N,B.out,eC,rfl⟩⟩,fun _=>⟨rfl,rfl,rfl⟩,fun _ h=>absurd h N,X.out _ _ _ R.out⟩
    clear HG a0 L Q B u eC N;go_wp2;exact bodyPost_ret (v:=.tuple #[.slice none 0 0,.agg #[.int .i64 C,.int .i64 (3000+(k:Int))]]) (by simp[results,Tryz.results66,go_sem, *]) rfl HE.out
  ·have ek:k=d.states.n:=by omega
   have b9:¬(k:Int)<(d.states.n:Int):=by omega
   obtain⟨y0,y1,f0,f1,y7⟩:=V.out wr u.out;have HE:Hid (yR d.p w (.returned (.tuple #[.slice (some ⟨g,0,none⟩) m m,.agg #[.int .i64 0,.int .i64 0]])) ((wr.setCell ⟨f,0,none⟩ (.int .i64 0)).setCell ⟨f,1,none⟩ (.int .i64 0))):=by
    refine⟨0,0,_,m,m,rfl,.inr ⟨HC.out,.inr ⟨fun j hj=>B.out j (by rw[EN.out]at hj;omega),rfl,rfl⟩⟩,fun h=>absurd rfl h,fun h _=>?_,X.out _ _ _ u.out⟩
    have ha:=H.out;rw[ek,<-EN.out]at ha;refine⟨by rw[HM.out,<-EN.out];exact(jS h (zos _)).1,g,rfl,fun i t ht=>?_⟩
    have k1:But f wr (wr.setCell ⟨f,0,none⟩ (.int .i64 0)):=set_but;have k2:But f (wr.setCell ⟨f,0,none⟩ (.int .i64 0)) ((wr.setCell ⟨f,0,none⟩ (.int .i64 0)).setCell ⟨f,1,none⟩ (.int .i64 0)):=set_but;exact(k1.trans k2).five (Ne.symm G.out) (ha.cs i t ht)
   clear H u B a6 V X ek;go_wp2;exact bodyPost_ret (v:=.tuple #[.slice (some ⟨g,0,none⟩) m m,.agg #[.int .i64 0,.int .i64 0]]) (by simp[results,Tryz.results66,go_sem, *]) rfl HE.out
theorem zk2(d:PlanD)(w:World)(a:d.lie w)(hs:d.small):Calls Tryz.prog 66 #[d.v] w (yR d.p w):=by
 by_cases b:(zD d.p).1=0
 ·exact ziQ d w a hs b
 ·exact zk1 d w a hs b
end Go.Proofs.YtdajaaondlekfaaGreat
