import Derived.Test.YtbmcgbmegcpgnaaGreatG12
import Derived.Test.YtbmcgbmegcpgnaaGreatVQState2
import Derived.Test.YtbmcgbmegcpgnaaGreatG1
set_option maxHeartbeats 32000000
set_option maxRecDepth 20000
set_option linter.unusedSimpArgs false
namespace Go.Proofs.YtbmcgbmegcpgnaaGreat
open Go.RowKit
theorem zda(a b:Nat)(ha:a<18446744073709551616)(hb:b<18446744073709551616):a&&& (18446744073709551615-b)=0↔a&&& b=a:=by
 have c:∀j,(18446744073709551615-b).testBit j=(decide (j<64)&&!b.testBit j):=by
  intro j;have:=Nat.testBit_two_pow_sub_succ (x:=b) (n:=64) (by simpa using hb) j
  rw[<-this];congr 1
  omega
 constructor
 ·intro h;apply Nat.eq_of_testBit_eq
  intro j;have d:=congrArg (fun n=>n.testBit j) h
  simp only[Nat.testBit_and,c,Nat.zero_testBit]at d;rw[Nat.testBit_and];by_cases g:j<64
  ·simp only[g,decide_true,Bool.true_and]at d;cases e:a.testBit j<;>cases f:b.testBit j<;>simp_all
  ·have:a.testBit j=false:=Nat.testBit_lt_two_pow (zom ha (by rw[show(18446744073709551616:Nat)=2^64 from rfl];exact Nat.pow_le_pow_right (by decide) (by omega)))
   simp[this]
 ·intro h;apply Nat.eq_of_testBit_eq
  intro j;have d:=congrArg (fun n=>n.testBit j) h
  simp only[Nat.testBit_and]at d;simp only[Nat.testBit_and,c,Nat.zero_testBit];cases e:a.testBit j<;>cases f:b.testBit j<;>simp_all
theorem zii{v m:Int}(d:0<=v/\v<18446744073709551616)(c:0<=m/\m<18446744073709551616):bits .andNot .u64 v m=0↔bits .and .u64 v m=v:=by
 obtain⟨A,rfl⟩:=Int.eq_ofNat_of_zero_le d.1;obtain⟨B,rfl⟩:=Int.eq_ofNat_of_zero_le c.1;have b:A<18446744073709551616:=by have:=d.2;omega
 have a:B<18446744073709551616:=by have:=c.2;omega
 rw[u64_andNot_nat A B b a,u64_and_nat A B b a];have:=zda A B b a;omega
theorem zeY{m w:Int}(c:0<=m/\m<18446744073709551616)(hw:1<=w/\w<=64):yI w<m↔w<ku m:=by
 obtain⟨W,rfl⟩:=Int.eq_ofNat_of_zero_le (show 0<=w by omega)
 obtain⟨M,rfl⟩:=Int.eq_ofNat_of_zero_le c.1;have d:M<2^64:=by have:=c.2;omega
 have g:1<=2^W:=Nat.one_le_two_pow;unfold yI ku;rw[if_pos hw];simp only[zov];constructor
 ·intro h;have a:2^W<=M:=by omega
  have b:=Lib.bitLen_shift W M a d;have e:M/2^W≠0:=by
   have:=Nat.div_pos a (by omega)
   omega
  have f:=Lib.bitLen_half (M/2^W) e (Nat.lt_of_le_of_lt (Nat.div_le_self _ _) d);omega
 ·intro h;apply Classical.byContradiction
  intro a;have b:M<2^W:=by omega
  have:=Lib.bitLen_le M W (by omega) b
  omega
theorem zbn{p:PPlan}{r:RefD}{n:Int}{c:CaseD}(g:0<=c.value/\c.value<18446744073709551616)(b:0<=c.mask/\c.mask<18446744073709551616)(hw:1<=p.width r []/\p.width r []<=64):
 yn p r n c=if yI (p.width r [])<c.mask\/bits .and .u64 c.value c.mask≠c.value then 6 else yF p.ss.length n c.to:=by
 unfold yn;have d:=zeY b hw;have a:=zii g b;by_cases h:p.width r []<ku c.mask\/bits .andNot .u64 c.value c.mask≠0
 ·rw[if_pos h,if_pos (h.imp d.2 (fun h=>fun e=>h (a.2 e)))]
 ·rw[if_neg h,if_neg (fun f=>h (f.imp d.1 (fun h=>fun e=>h (a.1 e))))]
theorem zai(m x:Int)(w:World):Calls Tryz.prog 66 #[.int .u64 m,.int .i64 x] w fun e w'=>e=.returned (.bool (decide (yI x<m)))/\w'=w:=by
 have a:=hid (zjW x w);generalize yI x=M at*;go_enter Tryz.func66,Tryz.ntmps66
 go_wp2_with fail
 refine a.out.mono ?_;rintro e b ⟨rfl,rfl⟩;clear a;go_wp2;go_ret;exact⟨rfl,rfl⟩
theorem zf8(d:PlanD)(w:World)(hl:d.lie w)(d7:∀r,0<=d.p.width r []/\d.p.width r []<=48)(k:Nat)(hk:k<d.states.n)(x:StateD)(hx:d.ss[k]?=some x):
 Calls Tryz.prog 23 #[d.v,.int .i64 k] w fun e w'=>e=.returned (.int .i64 (yu d.p k x.p))/\Below w.heap.size w w':=by
 have a8:∀o,Below w.heap.size w (w.alloc o):=fun o=>ze (zof _ _)
 obtain⟨g,off,x',ea,d5,hp⟩:=zu hl.ss hk;obtain rfl:x=x':=by rw[hx]at d5;exact zoq d5
 have d9:Hid (d.p.hs.length=d.heads.n):=by show d.p.hs.length=d.heads.n;simp[PlanD.p,hl.hs.1]
 have b3:Hid (d.p.ss.length=d.states.n):=by show d.p.ss.length=d.states.n;simp[PlanD.p,hl.ss.1]
 have HI:Hid (∀w',Calls Tryz.prog 29 #[d.v,.int .i64 x.head] w' fun e I=>e=.returned (.bool (decide (0<=x.head/\x.head<(d.heads.n:Int))))/\Below w'.heap.size w' I):=fun w'=>qE d x.head w'
 have a3:Hid (∀w',Below w.heap.size w w'->Calls Tryz.prog 65 #[d.v,.agg #[.int .i64 x.r.h,.int .i64 x.r.f],.slice none 0 0] w' fun e I=>e=.returned (.int .i64 (d.p.width x.r []))/\Below w'.heap.size w' I):=fun w' h=>by
  rw[<-qD hl];exact jI d x.r.h x.r.f none 0 0 [] w' (hl.step h) (zW _ _)
 have O:Hid (∀w',Calls Tryz.prog 67 #[d.v,.int .i64 k,.int .i64 x.els] w' fun e I=>e=.returned (.int .i64 (yF d.p.ss.length k x.els))/\Below w'.heap.size w' I):=fun w'=>by
  rw[b3.out];exact zah d k x.els w'
 obtain⟨⟨c0,_⟩,⟨c1,_⟩,⟨c2,_⟩,⟨c3,_⟩,⟨c4,_⟩,a9⟩:=hp;have T:=hid a9.1;have a7:=hid a9;have d8:=hid d7;have j:Hid (yu d.p k x.p=if x.head≠-1/\¬(0<=x.head/\x.head<(d.p.hs.length:Int))then 1 else if 4<x.cs.length then 2 else if 0<x.cs.length/\d.p.width x.r []=0 then 1 else or2 (zn (x.cs.map (yn d.p x.r k))) (yF d.p.ss.length k x.els)):=rfl
 have e1:(k:Int)<(d.states.n:Int):=by omega
 have k0:∀o,(w.alloc o).cell? ⟨g,off+k*5,none⟩=some (.int .i64 x.head):=fun o=>za c0 (a8 o)
 have k1:∀o,(w.alloc o).cell? ⟨g,off+k*5+1,none⟩=some (.int .i64 x.r.h):=fun o=>za c1 (a8 o)
 have e2:∀o,(w.alloc o).cell? ⟨g,off+k*5+2,none⟩=some (.int .i64 x.r.f):=fun o=>za c2 (a8 o)
 obtain⟨xa,exa⟩:∃xa,x.cases.a=xa:=⟨_,rfl⟩;have k3:∀o,(w.alloc o).cell? ⟨g,off+k*5+3,none⟩=some (.slice xa x.cases.n x.cases.c):=fun o=>by rw[<-exa];exact za c3 (a8 o)
 have b4:=hid exa;clear exa;have k4:∀o,(w.alloc o).cell? ⟨g,off+k*5+4,none⟩=some (.int .i64 x.els):=fun o=>za c4 (a8 o)
 obtain⟨W2,hW⟩:∃W2,W2=((w.alloc (.cells #[.slice d.heads.a d.heads.n d.heads.c,.slice d.mta.a d.mta.n d.mta.c,.slice (some ⟨g,off,none⟩) d.states.n d.states.c,.slice d.acts.a d.acts.n d.acts.c,.slice d.tabs.a d.tabs.n d.tabs.c,.slice d.nodes.a d.nodes.n d.nodes.c,.slice d.out.a d.out.n d.out.c] 29)).alloc (.cells #[.int .i64 x.head,.int .i64 x.r.h,.int .i64 x.r.f,.slice xa x.cases.n x.cases.c,.int .i64 x.els] 51)):=⟨_,rfl⟩;obtain⟨K,X⟩:∃K,K=w.heap.size:=⟨_,rfl⟩;obtain⟨Q,h1⟩:∃Q,Q=w.heap.size+1:=⟨_,rfl⟩;have j0:W2.cell? ⟨K,0,none⟩=some (.slice d.heads.a d.heads.n d.heads.c):=by rw[hW,X];exact(zoe _ _ _ (by simp)).trans ((zod _ _ _ _ rfl).trans rfl)
 have j1:W2.cell? ⟨K,1,none⟩=some (.slice d.mta.a d.mta.n d.mta.c):=by rw[hW,X];exact(zoe _ _ _ (by simp)).trans ((zod _ _ _ _ rfl).trans rfl)
 have j2:W2.cell? ⟨K,2,none⟩=some (.slice (some ⟨g,off,none⟩) d.states.n d.states.c):=by rw[hW,X];exact(zoe _ _ _ (by simp)).trans ((zod _ _ _ _ rfl).trans rfl)
 have j3:W2.cell? ⟨K,3,none⟩=some (.slice d.acts.a d.acts.n d.acts.c):=by rw[hW,X];exact(zoe _ _ _ (by simp)).trans ((zod _ _ _ _ rfl).trans rfl)
 have j4:W2.cell? ⟨K,4,none⟩=some (.slice d.tabs.a d.tabs.n d.tabs.c):=by rw[hW,X];exact(zoe _ _ _ (by simp)).trans ((zod _ _ _ _ rfl).trans rfl)
 have j5:W2.cell? ⟨K,5,none⟩=some (.slice d.nodes.a d.nodes.n d.nodes.c):=by rw[hW,X];exact(zoe _ _ _ (by simp)).trans ((zod _ _ _ _ rfl).trans rfl)
 have j6:W2.cell? ⟨K,6,none⟩=some (.slice d.out.a d.out.n d.out.c):=by rw[hW,X];exact(zoe _ _ _ (by simp)).trans ((zod _ _ _ _ rfl).trans rfl)
 have s0:W2.cell? ⟨Q,0,none⟩=some (.int .i64 x.head):=by rw[hW,h1];exact(zod _ _ _ _ (by simp)).trans rfl
 have s1:W2.cell? ⟨Q,1,none⟩=some (.int .i64 x.r.h):=by rw[hW,h1];exact(zod _ _ _ _ (by simp)).trans rfl
 have s2:W2.cell? ⟨Q,2,none⟩=some (.int .i64 x.r.f):=by rw[hW,h1];exact(zod _ _ _ _ (by simp)).trans rfl
 have s3:W2.cell? ⟨Q,3,none⟩=some (.slice xa x.cases.n x.cases.c):=by rw[hW,h1];exact(zod _ _ _ _ (by simp)).trans rfl
 have s4:W2.cell? ⟨Q,4,none⟩=some (.int .i64 x.els):=by rw[hW,h1];exact(zod _ _ _ _ (by simp)).trans rfl
 have HB:Hid (Below w.heap.size w W2):=by rw[hW];exact ze (ze (zof _ _))
 have EW:=hid hW;have E0:=hid X;have E1:=hid h1;unfold PlanD.v at HI a3 O;rw[ea]at HI a3 O;clear hl hx d5 c0 c1 c2 c3 c4 a9 d7 hW X h1 a8;by_cases hA:x.head= -1
 ·have bA:(x.head != -1)=false:=by simpa using hA
  rw[if_neg (fun h=>h.1 hA)]at j
  clear HI hA;by_cases h4:(4:Int)<(x.cases.n:Int)
  ·have d4:=zoY h4;rw[if_pos (by rw[T.out];omega)]at j
   clear h4 a3 O;go_enter Tryz.func23,Tryz.ntmps23
   go_wp2;go_ret;exact⟨by rw[j.out];rfl,ze (ze (zof _ _))⟩
  have d4:=zoX h4;rw[if_neg (by rw[T.out];omega)]at j
  have e0:x.cases.n<=4:=by omega
  clear h4;go_enter Tryz.func23,Tryz.ntmps23
  go_wp2_with fail
  rw[<-EW.out,<-E1.out,<-E0.out];refine(a3.out _ HB.out).mono ?_;rintro e w1 ⟨rfl,E⟩;have a4:=hid (zh HB.out E);have j0:=za j0 E;have j1:=za j1 E;have j2:=za j2 E;have j3:=za j3 E;have j4:=za j4 E;have j5:=za j5 E;have j6:=za j6 E;have s0:=za s0 E;have s1:=za s1 E;have s2:=za s2 E;have s3:=za s3 E;have s4:=za s4 E;clear a3 E HB;have a1:Hid (Below w1.heap.size w1 w1):=zof _ _;by_cases X:(0:Int)<(x.cases.n:Int)
  ·have d0:decide (0<x.cases.n)=true:=zoY (by omega)
   have c9:=zoY X;by_cases P:d.p.width x.r []=0
   ·rw[if_pos ⟨by rw[T.out];omega,P⟩]at j
    have f0:(d.p.width x.r []==0)=true:=by simpa using P
    clear P X O a1;go_wp2;go_ret;exact⟨by rw[j.out];rfl,a4.out⟩
   ·rw[if_neg (fun h=>P h.2)]at j
    have f0:(d.p.width x.r []==0)=false:=by simpa using P
    have a0:Hid (0<x.cases.n->1<=d.p.width x.r []/\d.p.width x.r []<=64):=fun _=>by have:=d8.out x.r;omega
    clear P X;go_wp2;go_loopw [7,8,9] (fun q _ _ wr=>∃G:Nat,G<=x.cases.n/\q=.int .i64 G/\Hid (zn (x.cs.map (yn d.p x.r k))=zn ((x.cs.drop G).map (yn d.p x.r k)))/\Hid (Below w1.heap.size w1 wr)) (fun q _ _ _=>x.cases.n-(intOf q).toNat)
    case atStart=>exact⟨0,zon _,rfl,rfl,a1⟩
    case round=>
     obtain⟨G,c7,rfl,l,b⟩:=hrel;clear a1;have F:=hid (zh a4.out b.out);have j0:=za j0 b.out;have j1:=za j1 b.out;have j2:=za j2 b.out;have j3:=za j3 b.out;have j4:=za j4 b.out;have j5:=za j5 b.out;have j6:=za j6 b.out;have s0:=za s0 b.out;have s1:=za s1 b.out;have s2:=za s2 b.out;have s3:=za s3 b.out;have s4:=za s4 b.out;by_cases a5:G<x.cases.n
     ·obtain⟨cg,L,c,ca,hc,⟨q0,w0⟩,⟨q1,W⟩,⟨q2,_⟩⟩:=zu (a7.out.step CaseD.keeps F.out) a5;have Y:(G:Int)<(x.cases.n:Int):=by omega
      have t:=xU (f:=yn d.p x.r k) hc;have a2:=bounds_u64 w0;have U:=bounds_u64 W;have B:=zbn (p:=d.p) (r:=x.r) (n:=k) (c:=c) (by omega) (by omega) (a0.out (by omega))
      have i:∀o,Below wr.heap.size wr (wr.alloc o):=fun o=>ze (zof _ _)
      have m:Hid (∀w',Calls Tryz.prog 66 #[.int .u64 c.mask,.int .i64 (d.p.width x.r [])] w' fun e I=>e=.returned (.bool (decide (yI (d.p.width x.r [])<c.mask)))/\I=w'):=fun w'=>zai c.mask _ w'
      have u:Hid (∀w',Calls Tryz.prog 67 #[d.v,.int .i64 k,.int .i64 c.to] w' fun e I=>e=.returned (.int .i64 (yF d.p.ss.length k c.to))/\Below w'.heap.size w' I):=fun w'=>by rw[b3.out];exact zah d k c.to w'
      unfold PlanD.v at u;rw[ea]at u;obtain rfl:xa=some ⟨cg,L,none⟩:=by rw[<-b4.out];exact ca
      clear ca;have s:=hid i;have c6:∀o,(wr.alloc o).cell? ⟨K,0,none⟩=some (.slice d.heads.a d.heads.n d.heads.c):=fun o=>za j0 (i o)
      have b7:∀o,(wr.alloc o).cell? ⟨K,1,none⟩=some (.slice d.mta.a d.mta.n d.mta.c):=fun o=>za j1 (i o)
      have d1:∀o,(wr.alloc o).cell? ⟨K,2,none⟩=some (.slice (some ⟨g,off,none⟩) d.states.n d.states.c):=fun o=>za j2 (i o)
      have c8:∀o,(wr.alloc o).cell? ⟨K,3,none⟩=some (.slice d.acts.a d.acts.n d.acts.c):=fun o=>za j3 (i o)
      have b8:∀o,(wr.alloc o).cell? ⟨K,4,none⟩=some (.slice d.tabs.a d.tabs.n d.tabs.c):=fun o=>za j4 (i o)
      have b5:∀o,(wr.alloc o).cell? ⟨K,5,none⟩=some (.slice d.nodes.a d.nodes.n d.nodes.c):=fun o=>za j5 (i o)
      have d3:∀o,(wr.alloc o).cell? ⟨K,6,none⟩=some (.slice d.out.a d.out.n d.out.c):=fun o=>za j6 (i o)
      have c5:∀o,(wr.alloc o).cell? ⟨Q,0,none⟩=some (.int .i64 x.head):=fun o=>za s0 (i o)
      have d6:∀o,(wr.alloc o).cell? ⟨Q,1,none⟩=some (.int .i64 x.r.h):=fun o=>za s1 (i o)
      have d2:∀o,(wr.alloc o).cell? ⟨Q,2,none⟩=some (.int .i64 x.r.f):=fun o=>za s2 (i o)
      have b6:∀o,(wr.alloc o).cell? ⟨Q,3,none⟩=some (.slice (some ⟨cg,L,none⟩) x.cases.n x.cases.c):=fun o=>za s3 (i o)
      have b9:∀o,(wr.alloc o).cell? ⟨Q,4,none⟩=some (.int .i64 x.els):=fun o=>za s4 (i o)
      clear hc w0 W i;generalize yn d.p x.r k c=C at*;generalize yF d.p.ss.length k c.to=R at*;generalize yI (d.p.width x.r [])=M at*;generalize hV:bits .and .u64 c.value c.mask=V at*;clear a2 U;by_cases N:M<c.mask
      ·have f1:=zoY N;have D:C=6:=by rw[B,if_pos (.inl N)]
       have J:Hid (yu d.p k x.p=6):=by show _=_;rw[j.out,l.out,t,if_pos (by rw[D];decide),D];rfl
       rw[f1]at m;clear t l B N D u;go_wp2_with fail
       refine(m.out _).mono ?_;rintro e u1 ⟨rfl,rfl⟩;have H:=hid (zh F.out (s.out (.cells #[.int .u64 c.value,.int .u64 c.mask,.int .i64 c.to] 98)));clear m s F;go_wp2;go_ret;exact⟨by rw[J.out];rfl,H.out⟩
      have f1:=zoX N;rw[f1]at m;by_cases S:V=c.value
      ·have f2:(V !=c.value)=false:=by simpa using S
       have a6:C=R:=by rw[B,if_neg (fun h=>h.elim N (fun h=>h S))]
       subst a6;by_cases Z:C=0
       ·have J:Hid (zn (x.cs.map (yn d.p x.r k))=zn ((x.cs.drop (G+1)).map (yn d.p x.r k))):=by show _=_;rw[l.out,t,if_neg (by simpa using Z)]
        have fC:(C !=0)=false:=by simpa using Z
        clear t l B N S;go_wp2_with fail
        refine(m.out _).mono ?_;rintro e u1 ⟨rfl,rfl⟩;clear m;go_wp2_with fail
        refine(u.out _).mono ?_;rintro e u2 ⟨rfl,y⟩;have H:=hid (zh (zh b.out (s.out _)) y);clear u y s b F;go_wp2;go_roundw
        case rel=>exact⟨G+1,by omega,by go_num,J,H⟩
        case measure=>simp[intOf];omega
       ·have J:Hid (yu d.p k x.p=C):=by show _=_;rw[j.out,l.out,t,if_pos Z];unfold or2;rw[if_pos Z]
        have fC:(C !=0)=true:=by simpa using Z
        clear t l B N S;go_wp2_with fail
        refine(m.out _).mono ?_;rintro e u1 ⟨rfl,rfl⟩;clear m;go_wp2_with fail
        refine(u.out _).mono ?_;rintro e u2 ⟨rfl,y⟩;have H:=hid (zh (zh F.out (s.out _)) y);clear u y s b F;go_wp2;go_ret;exact⟨by rw[J.out];rfl,H.out⟩
      ·have f2:(V !=c.value)=true:=by simpa using S
       have D:C=6:=by rw[B,if_pos (.inr S)]
       have J:Hid (yu d.p k x.p=6):=by show _=_;rw[j.out,l.out,t,if_pos (by rw[D];decide),D];rfl
       clear t l B N D u;go_wp2_with fail
       refine(m.out _).mono ?_;rintro e u1 ⟨rfl,rfl⟩;have H:=hid (zh F.out (s.out (.cells #[.int .u64 c.value,.int .u64 c.mask,.int .i64 c.to] 98)));clear m s F;go_wp2;go_ret;exact⟨by rw[J.out];rfl,H.out⟩
     ·have ek:G=x.cases.n:=by omega
      have Y:¬(G:Int)<(x.cases.n:Int):=by omega
      have J:Hid (yu d.p k x.p=yF d.p.ss.length k x.els):=by
       show _=_;have:zn (x.cs.map (yn d.p x.r k))=0:=by rw[l.out,ek,<-T.out,zoP];rfl
       rw[j.out,this];rfl
      clear l ek;go_wp2_with fail
      refine(O.out _).mono ?_;rintro e u2 ⟨rfl,y⟩;have H:=hid (zh F.out y);clear O y b F;go_wp2;go_ret;exact⟨by rw[J.out];rfl,H.out⟩
  ·have d0:decide (0<x.cases.n)=false:=zoX (by omega)
   have c9:=zoX X;rw[if_neg (fun h=>X (by have:=h.1;rw[T.out]at this;omega))]at j
   have a0:Hid (0<x.cases.n->1<=d.p.width x.r []/\d.p.width x.r []<=64):=fun h=>absurd h (by omega)
   clear X;go_wp2;go_loopw [7,8,9] (fun q _ _ wr=>∃G:Nat,G<=x.cases.n/\q=.int .i64 G/\Hid (zn (x.cs.map (yn d.p x.r k))=zn ((x.cs.drop G).map (yn d.p x.r k)))/\Hid (Below w1.heap.size w1 wr)) (fun q _ _ _=>x.cases.n-(intOf q).toNat)
   case atStart=>exact⟨0,zon _,rfl,rfl,a1⟩
   case round=>
    obtain⟨G,c7,rfl,l,b⟩:=hrel;clear a1;have F:=hid (zh a4.out b.out);have j0:=za j0 b.out;have j1:=za j1 b.out;have j2:=za j2 b.out;have j3:=za j3 b.out;have j4:=za j4 b.out;have j5:=za j5 b.out;have j6:=za j6 b.out;have s0:=za s0 b.out;have s1:=za s1 b.out;have s2:=za s2 b.out;have s3:=za s3 b.out;have s4:=za s4 b.out;by_cases a5:G<x.cases.n
    ·obtain⟨cg,L,c,ca,hc,⟨q0,w0⟩,⟨q1,W⟩,⟨q2,_⟩⟩:=zu (a7.out.step CaseD.keeps F.out) a5;have Y:(G:Int)<(x.cases.n:Int):=by omega
     have t:=xU (f:=yn d.p x.r k) hc;have a2:=bounds_u64 w0;have U:=bounds_u64 W;have B:=zbn (p:=d.p) (r:=x.r) (n:=k) (c:=c) (by omega) (by omega) (a0.out (by omega))
     have i:∀o,Below wr.heap.size wr (wr.alloc o):=fun o=>ze (zof _ _)
     have m:Hid (∀w',Calls Tryz.prog 66 #[.int .u64 c.mask,.int .i64 (d.p.width x.r [])] w' fun e I=>e=.returned (.bool (decide (yI (d.p.width x.r [])<c.mask)))/\I=w'):=fun w'=>zai c.mask _ w'
     have u:Hid (∀w',Calls Tryz.prog 67 #[d.v,.int .i64 k,.int .i64 c.to] w' fun e I=>e=.returned (.int .i64 (yF d.p.ss.length k c.to))/\Below w'.heap.size w' I):=fun w'=>by rw[b3.out];exact zah d k c.to w'
     unfold PlanD.v at u;rw[ea]at u;obtain rfl:xa=some ⟨cg,L,none⟩:=by rw[<-b4.out];exact ca
     clear ca;have s:=hid i;have c6:∀o,(wr.alloc o).cell? ⟨K,0,none⟩=some (.slice d.heads.a d.heads.n d.heads.c):=fun o=>za j0 (i o)
     have b7:∀o,(wr.alloc o).cell? ⟨K,1,none⟩=some (.slice d.mta.a d.mta.n d.mta.c):=fun o=>za j1 (i o)
     have d1:∀o,(wr.alloc o).cell? ⟨K,2,none⟩=some (.slice (some ⟨g,off,none⟩) d.states.n d.states.c):=fun o=>za j2 (i o)
     have c8:∀o,(wr.alloc o).cell? ⟨K,3,none⟩=some (.slice d.acts.a d.acts.n d.acts.c):=fun o=>za j3 (i o)
     have b8:∀o,(wr.alloc o).cell? ⟨K,4,none⟩=some (.slice d.tabs.a d.tabs.n d.tabs.c):=fun o=>za j4 (i o)
     have b5:∀o,(wr.alloc o).cell? ⟨K,5,none⟩=some (.slice d.nodes.a d.nodes.n d.nodes.c):=fun o=>za j5 (i o)
     have d3:∀o,(wr.alloc o).cell? ⟨K,6,none⟩=some (.slice d.out.a d.out.n d.out.c):=fun o=>za j6 (i o)
     have c5:∀o,(wr.alloc o).cell? ⟨Q,0,none⟩=some (.int .i64 x.head):=fun o=>za s0 (i o)
     have d6:∀o,(wr.alloc o).cell? ⟨Q,1,none⟩=some (.int .i64 x.r.h):=fun o=>za s1 (i o)
     have d2:∀o,(wr.alloc o).cell? ⟨Q,2,none⟩=some (.int .i64 x.r.f):=fun o=>za s2 (i o)
     have b6:∀o,(wr.alloc o).cell? ⟨Q,3,none⟩=some (.slice (some ⟨cg,L,none⟩) x.cases.n x.cases.c):=fun o=>za s3 (i o)
     have b9:∀o,(wr.alloc o).cell? ⟨Q,4,none⟩=some (.int .i64 x.els):=fun o=>za s4 (i o)
     clear hc w0 W i;generalize yn d.p x.r k c=C at*;generalize yF d.p.ss.length k c.to=R at*;generalize yI (d.p.width x.r [])=M at*;generalize hV:bits .and .u64 c.value c.mask=V at*;clear a2 U;by_cases N:M<c.mask
     ·have f1:=zoY N;have D:C=6:=by rw[B,if_pos (.inl N)]
      have J:Hid (yu d.p k x.p=6):=by show _=_;rw[j.out,l.out,t,if_pos (by rw[D];decide),D];rfl
      rw[f1]at m;clear t l B N D u;go_wp2_with fail
      refine(m.out _).mono ?_;rintro e u1 ⟨rfl,rfl⟩;have H:=hid (zh F.out (s.out (.cells #[.int .u64 c.value,.int .u64 c.mask,.int .i64 c.to] 98)));clear m s F;go_wp2;go_ret;exact⟨by rw[J.out];rfl,H.out⟩
     have f1:=zoX N;rw[f1]at m;by_cases S:V=c.value
     ·have f2:(V !=c.value)=false:=by simpa using S
      have a6:C=R:=by rw[B,if_neg (fun h=>h.elim N (fun h=>h S))]
      subst a6;by_cases Z:C=0
      ·have J:Hid (zn (x.cs.map (yn d.p x.r k))=zn ((x.cs.drop (G+1)).map (yn d.p x.r k))):=by show _=_;rw[l.out,t,if_neg (by simpa using Z)]
       have fC:(C !=0)=false:=by simpa using Z
       clear t l B N S;go_wp2_with fail
       refine(m.out _).mono ?_;rintro e u1 ⟨rfl,rfl⟩;clear m;go_wp2_with fail
       refine(u.out _).mono ?_;rintro e u2 ⟨rfl,y⟩;have H:=hid (zh (zh b.out (s.out _)) y);clear u y s b F;go_wp2;go_roundw
       case rel=>exact⟨G+1,by omega,by go_num,J,H⟩
       case measure=>simp[intOf];omega
      ·have J:Hid (yu d.p k x.p=C):=by show _=_;rw[j.out,l.out,t,if_pos Z];unfold or2;rw[if_pos Z]
       have fC:(C !=0)=true:=by simpa using Z
       clear t l B N S;go_wp2_with fail
       refine(m.out _).mono ?_;rintro e u1 ⟨rfl,rfl⟩;clear m;go_wp2_with fail
       refine(u.out _).mono ?_;rintro e u2 ⟨rfl,y⟩;have H:=hid (zh (zh F.out (s.out _)) y);clear u y s b F;go_wp2;go_ret;exact⟨by rw[J.out];rfl,H.out⟩
     ·have f2:(V !=c.value)=true:=by simpa using S
      have D:C=6:=by rw[B,if_pos (.inr S)]
      have J:Hid (yu d.p k x.p=6):=by show _=_;rw[j.out,l.out,t,if_pos (by rw[D];decide),D];rfl
      clear t l B N D u;go_wp2_with fail
      refine(m.out _).mono ?_;rintro e u1 ⟨rfl,rfl⟩;have H:=hid (zh F.out (s.out (.cells #[.int .u64 c.value,.int .u64 c.mask,.int .i64 c.to] 98)));clear m s F;go_wp2;go_ret;exact⟨by rw[J.out];rfl,H.out⟩
    ·have ek:G=x.cases.n:=by omega
     have Y:¬(G:Int)<(x.cases.n:Int):=by omega
     have J:Hid (yu d.p k x.p=yF d.p.ss.length k x.els):=by
      show _=_;have:zn (x.cs.map (yn d.p x.r k))=0:=by rw[l.out,ek,<-T.out,zoP];rfl
      rw[j.out,this];rfl
     clear l ek;go_wp2_with fail
     refine(O.out _).mono ?_;rintro e u2 ⟨rfl,y⟩;have H:=hid (zh F.out y);clear O y b F;go_wp2;go_ret;exact⟨by rw[J.out];rfl,H.out⟩
 have bA:(x.head != -1)=true:=by simpa using hA
 by_cases hH:0<=x.head/\x.head<(d.heads.n:Int)
 ·have b2:¬(x.head≠-1/\¬(0<=x.head/\x.head<(d.p.hs.length:Int))):=fun h=>h.2 (by rw[d9.out];exact hH)
  rw[if_neg b2]at j;rw[zoY hH]at HI;clear b2 hA hH;by_cases h4:(4:Int)<(x.cases.n:Int)
  ·have d4:=zoY h4;rw[if_pos (by rw[T.out];omega)]at j
   clear h4 a3 O;go_enter Tryz.func23,Tryz.ntmps23
   go_wp2_with fail
   rw[<-EW.out,<-E1.out,<-E0.out];refine(HI.out _).mono ?_;rintro e u0 ⟨rfl,A⟩;have H:=hid (zh HB.out A);have j0:=za j0 A;have j1:=za j1 A;have j2:=za j2 A;have j3:=za j3 A;have j4:=za j4 A;have j5:=za j5 A;have j6:=za j6 A;have s0:=za s0 A;have s1:=za s1 A;have s2:=za s2 A;have s3:=za s3 A;have s4:=za s4 A;clear HI A HB;go_wp2;go_ret;exact⟨by rw[j.out];rfl,H.out⟩
  have d4:=zoX h4;rw[if_neg (by rw[T.out];omega)]at j
  have e0:x.cases.n<=4:=by omega
  clear h4;go_enter Tryz.func23,Tryz.ntmps23
  go_wp2_with fail
  rw[<-EW.out,<-E1.out,<-E0.out];refine(HI.out _).mono ?_;rintro e u0 ⟨rfl,A⟩;have HB:=hid (zh HB.out A);have j0:=za j0 A;have j1:=za j1 A;have j2:=za j2 A;have j3:=za j3 A;have j4:=za j4 A;have j5:=za j5 A;have j6:=za j6 A;have s0:=za s0 A;have s1:=za s1 A;have s2:=za s2 A;have s3:=za s3 A;have s4:=za s4 A;clear HI A;go_wp2_with fail
  refine(a3.out _ HB.out).mono ?_;rintro e w1 ⟨rfl,E⟩;have a4:=hid (zh HB.out E);have j0:=za j0 E;have j1:=za j1 E;have j2:=za j2 E;have j3:=za j3 E;have j4:=za j4 E;have j5:=za j5 E;have j6:=za j6 E;have s0:=za s0 E;have s1:=za s1 E;have s2:=za s2 E;have s3:=za s3 E;have s4:=za s4 E;clear a3 E HB;have a1:Hid (Below w1.heap.size w1 w1):=zof _ _;by_cases X:(0:Int)<(x.cases.n:Int)
  ·have d0:decide (0<x.cases.n)=true:=zoY (by omega)
   have c9:=zoY X;by_cases P:d.p.width x.r []=0
   ·rw[if_pos ⟨by rw[T.out];omega,P⟩]at j
    have f0:(d.p.width x.r []==0)=true:=by simpa using P
    clear P X O a1;go_wp2;go_ret;exact⟨by rw[j.out];rfl,a4.out⟩
   ·rw[if_neg (fun h=>P h.2)]at j
    have f0:(d.p.width x.r []==0)=false:=by simpa using P
    have a0:Hid (0<x.cases.n->1<=d.p.width x.r []/\d.p.width x.r []<=64):=fun _=>by have:=d8.out x.r;omega
    clear P X;go_wp2;go_loopw [7,8,9] (fun q _ _ wr=>∃G:Nat,G<=x.cases.n/\q=.int .i64 G/\Hid (zn (x.cs.map (yn d.p x.r k))=zn ((x.cs.drop G).map (yn d.p x.r k)))/\Hid (Below w1.heap.size w1 wr)) (fun q _ _ _=>x.cases.n-(intOf q).toNat)
    case atStart=>exact⟨0,zon _,rfl,rfl,a1⟩
    case round=>
     obtain⟨G,c7,rfl,l,b⟩:=hrel;clear a1;have F:=hid (zh a4.out b.out);have j0:=za j0 b.out;have j1:=za j1 b.out;have j2:=za j2 b.out;have j3:=za j3 b.out;have j4:=za j4 b.out;have j5:=za j5 b.out;have j6:=za j6 b.out;have s0:=za s0 b.out;have s1:=za s1 b.out;have s2:=za s2 b.out;have s3:=za s3 b.out;have s4:=za s4 b.out;by_cases a5:G<x.cases.n
     ·obtain⟨cg,L,c,ca,hc,⟨q0,w0⟩,⟨q1,W⟩,⟨q2,_⟩⟩:=zu (a7.out.step CaseD.keeps F.out) a5;have Y:(G:Int)<(x.cases.n:Int):=by omega
      have t:=xU (f:=yn d.p x.r k) hc;have a2:=bounds_u64 w0;have U:=bounds_u64 W;have B:=zbn (p:=d.p) (r:=x.r) (n:=k) (c:=c) (by omega) (by omega) (a0.out (by omega))
      have i:∀o,Below wr.heap.size wr (wr.alloc o):=fun o=>ze (zof _ _)
      have m:Hid (∀w',Calls Tryz.prog 66 #[.int .u64 c.mask,.int .i64 (d.p.width x.r [])] w' fun e I=>e=.returned (.bool (decide (yI (d.p.width x.r [])<c.mask)))/\I=w'):=fun w'=>zai c.mask _ w'
      have u:Hid (∀w',Calls Tryz.prog 67 #[d.v,.int .i64 k,.int .i64 c.to] w' fun e I=>e=.returned (.int .i64 (yF d.p.ss.length k c.to))/\Below w'.heap.size w' I):=fun w'=>by rw[b3.out];exact zah d k c.to w'
      unfold PlanD.v at u;rw[ea]at u;obtain rfl:xa=some ⟨cg,L,none⟩:=by rw[<-b4.out];exact ca
      clear ca;have s:=hid i;have c6:∀o,(wr.alloc o).cell? ⟨K,0,none⟩=some (.slice d.heads.a d.heads.n d.heads.c):=fun o=>za j0 (i o)
      have b7:∀o,(wr.alloc o).cell? ⟨K,1,none⟩=some (.slice d.mta.a d.mta.n d.mta.c):=fun o=>za j1 (i o)
      have d1:∀o,(wr.alloc o).cell? ⟨K,2,none⟩=some (.slice (some ⟨g,off,none⟩) d.states.n d.states.c):=fun o=>za j2 (i o)
      have c8:∀o,(wr.alloc o).cell? ⟨K,3,none⟩=some (.slice d.acts.a d.acts.n d.acts.c):=fun o=>za j3 (i o)
      have b8:∀o,(wr.alloc o).cell? ⟨K,4,none⟩=some (.slice d.tabs.a d.tabs.n d.tabs.c):=fun o=>za j4 (i o)
      have b5:∀o,(wr.alloc o).cell? ⟨K,5,none⟩=some (.slice d.nodes.a d.nodes.n d.nodes.c):=fun o=>za j5 (i o)
      have d3:∀o,(wr.alloc o).cell? ⟨K,6,none⟩=some (.slice d.out.a d.out.n d.out.c):=fun o=>za j6 (i o)
      have c5:∀o,(wr.alloc o).cell? ⟨Q,0,none⟩=some (.int .i64 x.head):=fun o=>za s0 (i o)
      have d6:∀o,(wr.alloc o).cell? ⟨Q,1,none⟩=some (.int .i64 x.r.h):=fun o=>za s1 (i o)
      have d2:∀o,(wr.alloc o).cell? ⟨Q,2,none⟩=some (.int .i64 x.r.f):=fun o=>za s2 (i o)
      have b6:∀o,(wr.alloc o).cell? ⟨Q,3,none⟩=some (.slice (some ⟨cg,L,none⟩) x.cases.n x.cases.c):=fun o=>za s3 (i o)
      have b9:∀o,(wr.alloc o).cell? ⟨Q,4,none⟩=some (.int .i64 x.els):=fun o=>za s4 (i o)
      clear hc w0 W i;generalize yn d.p x.r k c=C at*;generalize yF d.p.ss.length k c.to=R at*;generalize yI (d.p.width x.r [])=M at*;generalize hV:bits .and .u64 c.value c.mask=V at*;clear a2 U;by_cases N:M<c.mask
      ·have f1:=zoY N;have D:C=6:=by rw[B,if_pos (.inl N)]
       have J:Hid (yu d.p k x.p=6):=by show _=_;rw[j.out,l.out,t,if_pos (by rw[D];decide),D];rfl
       rw[f1]at m;clear t l B N D u;go_wp2_with fail
       refine(m.out _).mono ?_;rintro e u1 ⟨rfl,rfl⟩;have H:=hid (zh F.out (s.out (.cells #[.int .u64 c.value,.int .u64 c.mask,.int .i64 c.to] 98)));clear m s F;go_wp2;go_ret;exact⟨by rw[J.out];rfl,H.out⟩
      have f1:=zoX N;rw[f1]at m;by_cases S:V=c.value
      ·have f2:(V !=c.value)=false:=by simpa using S
       have a6:C=R:=by rw[B,if_neg (fun h=>h.elim N (fun h=>h S))]
       subst a6;by_cases Z:C=0
       ·have J:Hid (zn (x.cs.map (yn d.p x.r k))=zn ((x.cs.drop (G+1)).map (yn d.p x.r k))):=by show _=_;rw[l.out,t,if_neg (by simpa using Z)]
        have fC:(C !=0)=false:=by simpa using Z
        clear t l B N S;go_wp2_with fail
        refine(m.out _).mono ?_;rintro e u1 ⟨rfl,rfl⟩;clear m;go_wp2_with fail
        refine(u.out _).mono ?_;rintro e u2 ⟨rfl,y⟩;have H:=hid (zh (zh b.out (s.out _)) y);clear u y s b F;go_wp2;go_roundw
        case rel=>exact⟨G+1,by omega,by go_num,J,H⟩
        case measure=>simp[intOf];omega
       ·have J:Hid (yu d.p k x.p=C):=by show _=_;rw[j.out,l.out,t,if_pos Z];unfold or2;rw[if_pos Z]
        have fC:(C !=0)=true:=by simpa using Z
        clear t l B N S;go_wp2_with fail
        refine(m.out _).mono ?_;rintro e u1 ⟨rfl,rfl⟩;clear m;go_wp2_with fail
        refine(u.out _).mono ?_;rintro e u2 ⟨rfl,y⟩;have H:=hid (zh (zh F.out (s.out _)) y);clear u y s b F;go_wp2;go_ret;exact⟨by rw[J.out];rfl,H.out⟩
      ·have f2:(V !=c.value)=true:=by simpa using S
       have D:C=6:=by rw[B,if_pos (.inr S)]
       have J:Hid (yu d.p k x.p=6):=by show _=_;rw[j.out,l.out,t,if_pos (by rw[D];decide),D];rfl
       clear t l B N D u;go_wp2_with fail
       refine(m.out _).mono ?_;rintro e u1 ⟨rfl,rfl⟩;have H:=hid (zh F.out (s.out (.cells #[.int .u64 c.value,.int .u64 c.mask,.int .i64 c.to] 98)));clear m s F;go_wp2;go_ret;exact⟨by rw[J.out];rfl,H.out⟩
     ·have ek:G=x.cases.n:=by omega
      have Y:¬(G:Int)<(x.cases.n:Int):=by omega
      have J:Hid (yu d.p k x.p=yF d.p.ss.length k x.els):=by
       show _=_;have:zn (x.cs.map (yn d.p x.r k))=0:=by rw[l.out,ek,<-T.out,zoP];rfl
       rw[j.out,this];rfl
      clear l ek;go_wp2_with fail
      refine(O.out _).mono ?_;rintro e u2 ⟨rfl,y⟩;have H:=hid (zh F.out y);clear O y b F;go_wp2;go_ret;exact⟨by rw[J.out];rfl,H.out⟩
  ·have d0:decide (0<x.cases.n)=false:=zoX (by omega)
   have c9:=zoX X;rw[if_neg (fun h=>X (by have:=h.1;rw[T.out]at this;omega))]at j
   have a0:Hid (0<x.cases.n->1<=d.p.width x.r []/\d.p.width x.r []<=64):=fun h=>absurd h (by omega)
   clear X;go_wp2;go_loopw [7,8,9] (fun q _ _ wr=>∃G:Nat,G<=x.cases.n/\q=.int .i64 G/\Hid (zn (x.cs.map (yn d.p x.r k))=zn ((x.cs.drop G).map (yn d.p x.r k)))/\Hid (Below w1.heap.size w1 wr)) (fun q _ _ _=>x.cases.n-(intOf q).toNat)
   case atStart=>exact⟨0,zon _,rfl,rfl,a1⟩
   case round=>
    obtain⟨G,c7,rfl,l,b⟩:=hrel;clear a1;have F:=hid (zh a4.out b.out);have j0:=za j0 b.out;have j1:=za j1 b.out;have j2:=za j2 b.out;have j3:=za j3 b.out;have j4:=za j4 b.out;have j5:=za j5 b.out;have j6:=za j6 b.out;have s0:=za s0 b.out;have s1:=za s1 b.out;have s2:=za s2 b.out;have s3:=za s3 b.out;have s4:=za s4 b.out;by_cases a5:G<x.cases.n
    ·obtain⟨cg,L,c,ca,hc,⟨q0,w0⟩,⟨q1,W⟩,⟨q2,_⟩⟩:=zu (a7.out.step CaseD.keeps F.out) a5;have Y:(G:Int)<(x.cases.n:Int):=by omega
     have t:=xU (f:=yn d.p x.r k) hc;have a2:=bounds_u64 w0;have U:=bounds_u64 W;have B:=zbn (p:=d.p) (r:=x.r) (n:=k) (c:=c) (by omega) (by omega) (a0.out (by omega))
     have i:∀o,Below wr.heap.size wr (wr.alloc o):=fun o=>ze (zof _ _)
     have m:Hid (∀w',Calls Tryz.prog 66 #[.int .u64 c.mask,.int .i64 (d.p.width x.r [])] w' fun e I=>e=.returned (.bool (decide (yI (d.p.width x.r [])<c.mask)))/\I=w'):=fun w'=>zai c.mask _ w'
     have u:Hid (∀w',Calls Tryz.prog 67 #[d.v,.int .i64 k,.int .i64 c.to] w' fun e I=>e=.returned (.int .i64 (yF d.p.ss.length k c.to))/\Below w'.heap.size w' I):=fun w'=>by rw[b3.out];exact zah d k c.to w'
     unfold PlanD.v at u;rw[ea]at u;obtain rfl:xa=some ⟨cg,L,none⟩:=by rw[<-b4.out];exact ca
     clear ca;have s:=hid i;have c6:∀o,(wr.alloc o).cell? ⟨K,0,none⟩=some (.slice d.heads.a d.heads.n d.heads.c):=fun o=>za j0 (i o)
     have b7:∀o,(wr.alloc o).cell? ⟨K,1,none⟩=some (.slice d.mta.a d.mta.n d.mta.c):=fun o=>za j1 (i o)
     have d1:∀o,(wr.alloc o).cell? ⟨K,2,none⟩=some (.slice (some ⟨g,off,none⟩) d.states.n d.states.c):=fun o=>za j2 (i o)
     have c8:∀o,(wr.alloc o).cell? ⟨K,3,none⟩=some (.slice d.acts.a d.acts.n d.acts.c):=fun o=>za j3 (i o)
     have b8:∀o,(wr.alloc o).cell? ⟨K,4,none⟩=some (.slice d.tabs.a d.tabs.n d.tabs.c):=fun o=>za j4 (i o)
     have b5:∀o,(wr.alloc o).cell? ⟨K,5,none⟩=some (.slice d.nodes.a d.nodes.n d.nodes.c):=fun o=>za j5 (i o)
     have d3:∀o,(wr.alloc o).cell? ⟨K,6,none⟩=some (.slice d.out.a d.out.n d.out.c):=fun o=>za j6 (i o)
     have c5:∀o,(wr.alloc o).cell? ⟨Q,0,none⟩=some (.int .i64 x.head):=fun o=>za s0 (i o)
     have d6:∀o,(wr.alloc o).cell? ⟨Q,1,none⟩=some (.int .i64 x.r.h):=fun o=>za s1 (i o)
     have d2:∀o,(wr.alloc o).cell? ⟨Q,2,none⟩=some (.int .i64 x.r.f):=fun o=>za s2 (i o)
     have b6:∀o,(wr.alloc o).cell? ⟨Q,3,none⟩=some (.slice (some ⟨cg,L,none⟩) x.cases.n x.cases.c):=fun o=>za s3 (i o)
     have b9:∀o,(wr.alloc o).cell? ⟨Q,4,none⟩=some (.int .i64 x.els):=fun o=>za s4 (i o)
     clear hc w0 W i;generalize yn d.p x.r k c=C at*;generalize yF d.p.ss.length k c.to=R at*;generalize yI (d.p.width x.r [])=M at*;generalize hV:bits .and .u64 c.value c.mask=V at*;clear a2 U;by_cases N:M<c.mask
     ·have f1:=zoY N;have D:C=6:=by rw[B,if_pos (.inl N)]
      have J:Hid (yu d.p k x.p=6):=by show _=_;rw[j.out,l.out,t,if_pos (by rw[D];decide),D];rfl
      rw[f1]at m;clear t l B N D u;go_wp2_with fail
      refine(m.out _).mono ?_;rintro e u1 ⟨rfl,rfl⟩;have H:=hid (zh F.out (s.out (.cells #[.int .u64 c.value,.int .u64 c.mask,.int .i64 c.to] 98)));clear m s F;go_wp2;go_ret;exact⟨by rw[J.out];rfl,H.out⟩
     have f1:=zoX N;rw[f1]at m;by_cases S:V=c.value
     ·have f2:(V !=c.value)=false:=by simpa using S
      have a6:C=R:=by rw[B,if_neg (fun h=>h.elim N (fun h=>h S))]
      subst a6;by_cases Z:C=0
      ·have J:Hid (zn (x.cs.map (yn d.p x.r k))=zn ((x.cs.drop (G+1)).map (yn d.p x.r k))):=by show _=_;rw[l.out,t,if_neg (by simpa using Z)]
       have fC:(C !=0)=false:=by simpa using Z
       clear t l B N S;go_wp2_with fail
       refine(m.out _).mono ?_;rintro e u1 ⟨rfl,rfl⟩;clear m;go_wp2_with fail
       refine(u.out _).mono ?_;rintro e u2 ⟨rfl,y⟩;have H:=hid (zh (zh b.out (s.out _)) y);clear u y s b F;go_wp2;go_roundw
       case rel=>exact⟨G+1,by omega,by go_num,J,H⟩
       case measure=>simp[intOf];omega
      ·have J:Hid (yu d.p k x.p=C):=by show _=_;rw[j.out,l.out,t,if_pos Z];unfold or2;rw[if_pos Z]
       have fC:(C !=0)=true:=by simpa using Z
       clear t l B N S;go_wp2_with fail
       refine(m.out _).mono ?_;rintro e u1 ⟨rfl,rfl⟩;clear m;go_wp2_with fail
       refine(u.out _).mono ?_;rintro e u2 ⟨rfl,y⟩;have H:=hid (zh (zh F.out (s.out _)) y);clear u y s b F;go_wp2;go_ret;exact⟨by rw[J.out];rfl,H.out⟩
     ·have f2:(V !=c.value)=true:=by simpa using S
      have D:C=6:=by rw[B,if_pos (.inr S)]
      have J:Hid (yu d.p k x.p=6):=by show _=_;rw[j.out,l.out,t,if_pos (by rw[D];decide),D];rfl
      clear t l B N D u;go_wp2_with fail
      refine(m.out _).mono ?_;rintro e u1 ⟨rfl,rfl⟩;have H:=hid (zh F.out (s.out (.cells #[.int .u64 c.value,.int .u64 c.mask,.int .i64 c.to] 98)));clear m s F;go_wp2;go_ret;exact⟨by rw[J.out];rfl,H.out⟩
    ·have ek:G=x.cases.n:=by omega
     have Y:¬(G:Int)<(x.cases.n:Int):=by omega
     have J:Hid (yu d.p k x.p=yF d.p.ss.length k x.els):=by
      show _=_;have:zn (x.cs.map (yn d.p x.r k))=0:=by rw[l.out,ek,<-T.out,zoP];rfl
      rw[j.out,this];rfl
     clear l ek;go_wp2_with fail
     refine(O.out _).mono ?_;rintro e u2 ⟨rfl,y⟩;have H:=hid (zh F.out y);clear O y b F;go_wp2;go_ret;exact⟨by rw[J.out];rfl,H.out⟩
 ·have b2:x.head≠-1/\¬(0<=x.head/\x.head<(d.p.hs.length:Int)):=⟨hA,by rw[d9.out];exact hH⟩
  rw[if_pos b2]at j;rw[zoX hH]at HI;clear b2 hA hH a3 O;go_enter Tryz.func23,Tryz.ntmps23
  go_wp2_with fail
  rw[<-EW.out,<-E1.out,<-E0.out];refine(HI.out _).mono ?_;rintro e u0 ⟨rfl,A⟩;have H:=hid (zh HB.out A);clear HI A HB;go_wp2;go_ret;exact⟨by rw[j.out];rfl,H.out⟩
end Go.Proofs.YtbmcgbmegcpgnaaGreat
