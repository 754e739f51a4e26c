import Derived.Test.YtdajaaondlekfaaGreatG10
import Derived.Test.YtdajaaondlekfaaGreatG4
import Derived.Test.YtdajaaondlekfaaGreatG1
import Derived.Test.YtdajaaondlekfaaGreatG6
import Derived.Test.YtdajaaondlekfaaGreatG12
set_option maxHeartbeats 16000000
set_option maxRecDepth 20000
set_option linter.unusedSimpArgs false
namespace Go.Proofs.YtdajaaondlekfaaGreat
open Go.RowKit
def isK(kind:Int):Bool:=decide (kind=1\/kind=2\/kind=3)
def kr(kind:Int):Int:=if kind=2 then 1 else 3
theorem zio(x:Int)(w:World):Calls Tryz.prog 206 #[.int .i64 x] w fun e w'=>e=.returned (.bool (isK x))/\w'=w:=by
 by_cases b:x=1
 ·subst b;go_enter Tryz.func206,Tryz.ntmps206
  go_wp2;go_ret;exact⟨rfl,rfl⟩
 have g:(x==1)=false:=by simpa using b
 by_cases h2:x=2
 ·subst h2;go_enter Tryz.func206,Tryz.ntmps206
  go_wp2;go_ret;exact⟨rfl,rfl⟩
 have d:(x==2)=false:=by simpa using h2
 by_cases a:x=3
 ·subst a;go_enter Tryz.func206,Tryz.ntmps206
  go_wp2;go_ret;exact⟨rfl,rfl⟩
 have f:(x==3)=false:=by simpa using a
 have c:Hid (isK x=false):=zoX (fun h=>h.elim b (fun h=>h.elim h2 a))
 go_enter Tryz.func206,Tryz.ntmps206
 go_wp2;go_ret;exact⟨by rw[c.out];rfl,rfl⟩
theorem zip(x:Int)(w:World):Calls Tryz.prog 208 #[.int .i64 x] w fun e w'=>e=.returned (.int .i64 (kr x))/\w'=w:=by
 by_cases h2:x=2
 ·subst h2;go_enter Tryz.func208,Tryz.ntmps208
  go_wp2;go_ret;exact⟨rfl,rfl⟩
 ·have b:(x==2)=false:=by simpa using h2
  have a:Hid (kr x=3):=if_neg h2;go_enter Tryz.func208,Tryz.ntmps208
  go_wp2;go_ret;exact⟨by rw[a.out];rfl,rfl⟩
def InC(low a:Int)(L:List Int):Bool:=L.all fun x=>decide (low<=x/\x<=a)
theorem xQ{w:World}{a:Option Addr}{n:Nat}{L:List Int}(h:Has .i64 w a n L){k:Nat}(c:k<n):∃g off x,a=some ⟨g,off,none⟩/\L[k]?=some x/\w.cell? ⟨g,off+k,none⟩=some (.int .i64 x):=by
 obtain⟨g,off,e,_,d⟩:=h.some (by omega)
 have b:k<L.length:=by rw[h.1];exact c
 have:=d k c;rw[zoi,zoh b,zoC]at this;exact⟨g,off,_,e,zoh b,this⟩
theorem zg8{w:World}{a:Option Addr}{n:Nat}{L:List Int}(h:Has .u64 w a n L){k:Nat}(c:k<n):∃g off x,a=some ⟨g,off,none⟩/\L[k]?=some x/\w.cell? ⟨g,off+k,none⟩=some (.int .u64 x):=by
 obtain⟨g,off,e,_,d⟩:=h.some (by omega)
 have b:k<L.length:=by rw[h.1];exact c
 have:=d k c;rw[zoi,zoh b,zoC]at this;exact⟨g,off,_,e,zoh b,this⟩
theorem zaj(low b:Int)(a:Option Addr)(n c:Nat)(L:List Int)(w:World)(E:n<=100000)(l:Has .i64 w a n L):
 Calls Tryz.prog 207 #[.int .i64 low,.int .i64 b,.slice a n c] w fun e w'=>e=.returned (.bool (InC low b L))/\w'=w:=by
 have t:=hid l;have u:=hid l.1;clear l;go_enter Tryz.func207,Tryz.ntmps207
 go_wp2;go_loop [11,8] (fun q _=>∃k:Nat,k<=n/\q=.int .i64 k/\Hid (InC low b L=InC low b (L.drop k))) (fun q _=>n-(intOf q).toNat)
 case atStart=>exact⟨0,zon _,rfl,rfl⟩
 case round=>
  obtain⟨k,D,rfl,f⟩:=hrel;by_cases i:k<n
  ·obtain⟨g,off,y,j,s,r0⟩:=xQ t.out i;subst j;have B:(k:Int)<(n:Int):=by omega
   have d:InC low b (L.drop k)=(decide (low<=y/\y<=b)&&InC low b (L.drop (k+1))):=by
    obtain⟨m,e⟩:=zok.1 s;rw[zoM m,e];rfl
   clear s;by_cases o:y<low
   ·have x:=zoY o;have h:Hid (InC low b L=false):=by show _=_;rw[f.out,d,zoX (by omega)];rfl
    clear d f;go_wp2;go_ret;exact⟨by rw[h.out];rfl,rfl⟩
   have x:=zoX o;by_cases h2:b<y
   ·have C:=zoY h2;have h:Hid (InC low b L=false):=by show _=_;rw[f.out,d,zoX (by omega)];rfl
    clear d f;go_wp2;go_ret;exact⟨by rw[h.out];rfl,rfl⟩
   ·have C:=zoX h2;have A:Hid (InC low b L=InC low b (L.drop (k+1))):=by show _=_;rw[f.out,d,zoY (by omega)];rfl
    clear d f;go_wp2;go_round
    case rel=>exact⟨k+1,by omega,by go_num,A⟩
    case measure=>simp[intOf];omega
  ·have r:k=n:=by omega
   have h:Hid (InC low b L=true):=by show _=_;rw[f.out,r,<-u.out,zoP];rfl
   clear f;subst r;go_wp2;go_ret;exact⟨by rw[h.out];rfl,rfl⟩
def jQ:List Int->List Int->Bool
 |x::l,y::ws=>decide (ku x<=y)&&jQ l ws
 |_,_=>true
theorem ze5{l ws:List Int}{k:Nat}{x y:Int}(a:l[k]?=some x)(b:ws[k]?=some y):jQ (l.drop k) (ws.drop k)=(decide (ku x<=y)&&jQ (l.drop (k+1)) (ws.drop (k+1))):=by
 obtain⟨c,e⟩:=zok.1 a;obtain⟨h2,d⟩:=zok.1 b;rw[zoM c,zoM h2,e,d];rfl
theorem ze6(a b:Option Addr)(n m c d:Nat)(l ws:List Int)(w:World)(T:n<=m)(X:n<=100000)(ha:Has .u64 w a n l)(hb:Has .i64 w b m ws):
 Calls Tryz.prog 198 #[.slice a n c,.slice b m d] w fun e w'=>e=.returned (.bool (jQ l ws))/\Below w.heap.size w w':=by
 have U:=hid ha;have O:=hid hb;have P:=hid ha.1;have H:=hid ha.nums;have B:Hid (Below w.heap.size w w):=zof _ _;clear ha hb;go_enter Tryz.func198,Tryz.ntmps198
 go_wp2;go_loopw [9,5,6] (fun q _ _ wr=>∃k:Nat,k<=n/\q=.int .i64 k/\Hid (jQ l ws=jQ (l.drop k) (ws.drop k))/\Hid (Below w.heap.size w wr)) (fun q _ _ _=>n-(intOf q).toNat)
 case atStart=>exact⟨0,zon _,rfl,rfl,B⟩
 case round=>
  obtain⟨k,W,rfl,t,f⟩:=hrel;clear B;by_cases C:k<n
  ·obtain⟨g,off,x,E,I,r0⟩:=zg8 (U.out.step f.out) C;obtain⟨Y,N,y,G,M,r1⟩:=xQ (O.out.step f.out) (show k<m by omega)
   subst E G;have V:(k:Int)<(n:Int):=by omega
   have R:(k:Int)<(m:Int):=by omega
   have r:=ze5 I M;have o:=H.out x (zol I);have u:=zm r1;have h:Hid (∀w',Calls Tryz.prog 200 #[.int .u64 x] w' fun e F=>e=.returned (.int .i64 (ku x))/\F=w'):=fun w'=>zdF x w' o.1 o.2
   clear I M o;generalize ku x=L at*;by_cases J:y<L
   ·have Q:=zoY J;have D:Hid (jQ l ws=false):=by show _=_;rw[t.out,r,zoX (by omega)];rfl
    clear r t;go_wp2_with fail
    haveI inhB:∀w:World,Inhabited (zq w):=fun w=>⟨⟨w,zof _ _⟩⟩
    refine zi (by kernel_rfl) (by kernel_rfl) ?_
    repeat (go_big_quiet_step (first|(go_at_call 200;exact zt _ (h.out _))))
    refine wpQuiet_nil ?_;intro wq s;obtain⟨⟨_,i⟩,j⟩:=s;subst j;have A:=hid (zh f.out i);clear i h u;go_wp2;go_ret;exact⟨by rw[D.out];rfl,A.out⟩
   ·have Q:=zoX J;have S:Hid (jQ l ws=jQ (l.drop (k+1)) (ws.drop (k+1))):=by show _=_;rw[t.out,r,zoY (by omega)];rfl
    clear r t;go_wp2_with fail
    haveI inhB:∀w:World,Inhabited (zq w):=fun w=>⟨⟨w,zof _ _⟩⟩
    refine zi (by kernel_rfl) (by kernel_rfl) ?_
    repeat (go_big_quiet_step (first|(go_at_call 200;exact zt _ (h.out _))))
    refine wpQuiet_nil ?_;intro wq s;obtain⟨⟨_,i⟩,j⟩:=s;subst j;have A:=hid (zh f.out i);clear i h u r0 r1 f;go_wp2;go_roundw
    case rel=>exact⟨k+1,by omega,by go_num,S,A⟩
    case measure=>simp[intOf];omega
  ·have K:k=n:=by omega
   have D:Hid (jQ l ws=true):=by
    show _=_;rw[t.out,K,<-P.out,zoP];rfl
   have A:=hid f.out;clear t f;subst K;go_wp2;go_ret;exact⟨by rw[D.out];rfl,A.out⟩
def yJ(ws:List Int):Int:=
 if ws.length<1\/8<ws.length then 2 else if ∀j,j<ws.length->Mth.Fit ws j then(if Mth.off ws ws.length%8=0/\Mth.off ws ws.length<=256 then 0 else 6)else 6
theorem zh5(a:Option Addr)(m c:Nat)(ws:List Int)(w:World)(hw:Has .i64 w a m ws):
 Calls Tryz.prog 107 #[HD a m c] w fun e w'=>∃x y,e=.returned (.tuple #[.int .i64 x,.agg #[.int .i64 (yJ ws),.int .i64 y]])/\Below w.heap.size w w':=by
 have o:=hw.1;by_cases n:(m:Int)<1\/8<(m:Int)
 ·have e:yJ ws=2:=by unfold yJ;rw[if_pos (by omega)]
  rw[e];exact(zit a m c w n).mono fun _ _ ⟨h2,g⟩=>⟨0,-1,h2,g⟩
 have l:¬(ws.length<1\/8<ws.length):=by omega
 rcases zcg (Mth.Fit ws) m with d|⟨i,hi,b,f⟩
 ·have e:yJ ws=if Mth.off ws m%8=0/\Mth.off ws m<=256 then 0 else 6:=by
   unfold yJ;rw[if_neg l,o,if_pos d]
  rw[e];refine(zcX a m c ws w (by omega) (by omega) hw d).mono fun q w' ⟨x,h2,g,k⟩=>?_
  by_cases j:Mth.off ws m%8=0/\Mth.off ws m<=256
  ·rw[if_pos j];exact⟨_,_,by rw[h2,g.1 j],k⟩
  ·rw[if_neg j];exact⟨_,_,by rw[h2,g.2 j],k⟩
 ·have e:yJ ws=6:=by
   unfold yJ;rw[if_neg l,if_neg (fun h=>b (h i (by omega)))]
  rw[e];exact(zgg a m c i ws w (by omega) (by omega) hw hi f b).mono fun _ _ ⟨h2,g⟩=>⟨0,i,h2,g⟩
theorem zkd(d:PlanD)(w:World)(j:d.lie w)(k:Nat)(r:k<d.heads.n):
 Calls Tryz.prog 137 #[d.v,.int .i64 k] w fun e w'=>e=.returned (.int .i64 (yJ (d.p.hs.getD k [])))/\Below w.heap.size w w':=by
 obtain⟨g,off,x,A,i,h⟩:=zu j.hs r;rw[Nat.mul_one]at h;have m:d.p.hs.getD k []=x.ws:=by simp only[PlanD.p,zoi,zoy,i];rfl
 rw[m];have f:∀o,Below w.heap.size w (w.alloc o):=fun o=>ze (zof _ _)
 have q:∀o,(w.alloc o).cell? ⟨g,off+k,none⟩=some (.slice x.w.a x.w.n x.w.c):=fun o=>za h.1.1 (f o)
 have l:Hid (∀o,Calls Tryz.prog 107 #[.agg #[.slice x.w.a x.w.n x.w.c]] (w.alloc o) fun e w'=>∃u v,e=.returned (.tuple #[.int .i64 u,.agg #[.int .i64 (yJ x.ws),.int .i64 v]])/\Below (w.alloc o).heap.size (w.alloc o) w'):=fun o=>zh5 x.w.a x.w.n x.w.c x.ws (w.alloc o) (h.2.step (f o))
 have t:(k:Int)<(d.heads.n:Int):=by omega
 generalize yJ x.ws=C at*;clear j i h m;go_enter Tryz.func137,Tryz.ntmps137
 go_wp2_with fail
 refine(l.out _).mono ?_;rintro e y ⟨u,v,rfl,b⟩;have s:=hid (zh (f _) b);clear l b f q;go_wp2;go_ret;exact⟨rfl,ze s.out⟩
theorem zke(d:PlanD)(w:World)(f:d.lie w)(k:Nat)(l:k<d.mta.n):
 Calls Tryz.prog 138 #[d.v,.int .i64 k] w fun e w'=>e=.returned (.int .i64 (xC (d.p.ms.getD k 0)))/\Below w.heap.size w w':=by
 obtain⟨g,off,x,r,b,c0⟩:=zaL f.ms l;have i:d.p.ms.getD k 0=x:=by simp only[PlanD.p,zoi,b,zoC]
 rw[i];have c:∀o,Below w.heap.size w (w.alloc o):=fun o=>ze (zof _ _)
 have j:∀o,(w.alloc o).cell? ⟨g,off+k,none⟩=some (.int .i64 x):=fun o=>za c0 (c o)
 have h:Hid (∀w',Calls Tryz.prog 169 #[.int .i64 x] w' fun e a=>e=.returned (.int .i64 (xC x))/\a=w'):=fun w'=>zg2 x w'
 have m:(k:Int)<(d.mta.n:Int):=by omega
 generalize xC x=C at*;clear f b c0 i;go_enter Tryz.func138,Tryz.ntmps138
 go_wp2_with fail
 refine(h.out _).mono ?_;rintro e q ⟨rfl,rfl⟩;clear h j;go_wp2;go_ret;exact⟨rfl,c _⟩
theorem znF{w w':World}{b0 a:Nat}{v0 v1 v2 v3 v4 v5 v6 c d:Value}(h:w.cell? ⟨b0,0,none⟩=some v0/\w.cell? ⟨b0,1,none⟩=some v1/\w.cell? ⟨b0,2,none⟩=some v2/\w.cell? ⟨b0,3,none⟩=some v3/\w.cell? ⟨b0,4,none⟩=some v4/\w.cell? ⟨b0,5,none⟩=some v5/\w.cell? ⟨b0,6,none⟩=some v6/\w.cell? ⟨a,0,none⟩=some c/\w.cell? ⟨a,1,none⟩=some d)(b:Below w.heap.size w w'):w'.cell? ⟨b0,0,none⟩=some v0/\w'.cell? ⟨b0,1,none⟩=some v1/\w'.cell? ⟨b0,2,none⟩=some v2/\w'.cell? ⟨b0,3,none⟩=some v3/\w'.cell? ⟨b0,4,none⟩=some v4/\w'.cell? ⟨b0,5,none⟩=some v5/\w'.cell? ⟨b0,6,none⟩=some v6/\w'.cell? ⟨a,0,none⟩=some c/\w'.cell? ⟨a,1,none⟩=some d:=
 ⟨za (h.1) b,za (h.2.1) b,za (h.2.2.1) b,za (h.2.2.2.1) b,za (h.2.2.2.2.1) b,za (h.2.2.2.2.2.1) b,za (h.2.2.2.2.2.2.1) b,za (h.2.2.2.2.2.2.2.1) b,za (h.2.2.2.2.2.2.2.2) b⟩
theorem zfS(d:PlanD)(w:World)(N:d.lie w)(k:Nat)(Y:k<d.acts.n)(x:ActD)(S:d.al[k]?=some x):
 Calls Tryz.prog 140 #[d.v,.int .i64 k] w fun e w'=>e=.returned (.int .i64 (ki d.p x.p))/\Below w.heap.size w w':=by
 have C:∀o,Below w.heap.size w (w.alloc o):=fun o=>ze (zof _ _)
 obtain⟨g,off,x',ea,B,⟨c0,_⟩,⟨c1,_⟩,t,s⟩:=zu N.al Y;obtain rfl:x=x':=by rw[S]at B;exact zoq B
 have K:=t.1;have G:=s.1;have q:Hid (x.w.n<=100000->∀w',Below w.heap.size w w'->Calls Tryz.prog 176 #[.slice x.w.a x.w.n x.w.c,.func (.func 169) #[] #[]] w' fun e j=>e=.returned (.int .i64 (zn (x.ws.map xC)))/\Below w'.heap.size w' j):=fun hs w' h=>
  zd6 x.w x.ws xC w' hs (t.step h) (fun j _ c _=>(zg2 c j).mono fun _ _ ⟨E,h2⟩=>⟨E,by rw[h2];exact zof _ _⟩)
 have m:Hid (x.ops.n<=100000->∀w',Below w.heap.size w w'->Calls Tryz.prog 177 #[.slice x.ops.a x.ops.n x.ops.c,.func (.func 178) #[DV d x] #[]] w' fun e j=>e=.returned (.int .i64 (zn (x.os.map (fun o=>zx d.p x.ws o.p))))/\Below w'.heap.size w' j):=fun hs w' h=>
  zeP (DV d x) x.ops x.os (fun o=>zx d.p x.ws o.p) w' hs (s.step OpD.keeps h) (fun j O o V=>by
   obtain⟨i,hi⟩:=List.getElem?_of_mem V;obtain⟨g2,T,_,⟨_,_,_,_,_,W⟩⟩:=s.2 i o hi;exact zj5 d x o j (N.step (zh h O)) (t.step (zh h O)) (W.step PushD.keeps (zh h O)))
 have f:Hid (ki d.p x.p=if 3<x.ws.length\/5<x.os.length then 2 else or2 (zn (x.ws.map xC)) (zn (x.os.map (fun o=>zx d.p x.ws o.p)))):=by
  show ki d.p x.p=_;unfold ki ActD.p;simp only[zoE,List.map_map];rfl
 generalize zn (x.ws.map xC)=FW at*;generalize zn (x.os.map (fun o=>zx d.p x.ws o.p))=FO at*
 have A:Hid (∀(w':World),Calls Tryz.prog 172 #[.slice (some ⟨w'.heap.size,0,none⟩) 2 2] (w'.alloc (.cells #[.int .i64 FW,.int .i64 FO] 3)) fun e j=>e=.returned (.int .i64 (or2 FW FO))/\j=w'.alloc (.cells #[.int .i64 FW,.int .i64 FO] 3)):=fun w'=>zbl (b:=w'.heap.size) (x:=FW) (y:=FO) (or2 FW FO) rfl (by simp) (by simp)
 have a1:(k:Int)<(d.acts.n:Int):=by omega
 have k0:∀o,(w.alloc o).cell? ⟨g,off+k*2,none⟩=some (.slice x.w.a x.w.n x.w.c):=fun o=>za c0 (C o)
 have k1:∀o,(w.alloc o).cell? ⟨g,off+k*2+1,none⟩=some (.slice x.ops.a x.ops.n x.ops.c):=fun o=>za c1 (C o)
 obtain⟨l,hW⟩:∃l,l=((w.alloc (.cells #[.slice d.heads.a d.heads.n d.heads.c,.slice d.mta.a d.mta.n d.mta.c,.slice d.states.a d.states.n d.states.c,.slice (some ⟨g,off,none⟩) d.acts.n d.acts.c,.slice d.tabs.a d.tabs.n d.tabs.c,.slice d.nodes.a d.nodes.n d.nodes.c,.slice d.out.a d.out.n d.out.c] 228)).alloc (.cells #[.slice x.w.a x.w.n x.w.c,.slice x.ops.a x.ops.n x.ops.c] 63)):=⟨_,rfl⟩;obtain⟨b0,h0⟩:∃b0,b0=w.heap.size:=⟨_,rfl⟩;obtain⟨D,E⟩:∃D,D=w.heap.size+1:=⟨_,rfl⟩;have z0:l.cell? ⟨b0,0,none⟩=some (.slice d.heads.a d.heads.n d.heads.c):=by rw[hW,h0];exact(zoe _ _ _ (by simp)).trans ((zod _ _ _ _ rfl).trans rfl)
 have z1:l.cell? ⟨b0,1,none⟩=some (.slice d.mta.a d.mta.n d.mta.c):=by rw[hW,h0];exact(zoe _ _ _ (by simp)).trans ((zod _ _ _ _ rfl).trans rfl)
 have z2:l.cell? ⟨b0,2,none⟩=some (.slice d.states.a d.states.n d.states.c):=by rw[hW,h0];exact(zoe _ _ _ (by simp)).trans ((zod _ _ _ _ rfl).trans rfl)
 have z3:l.cell? ⟨b0,3,none⟩=some (.slice (some ⟨g,off,none⟩) d.acts.n d.acts.c):=by rw[hW,h0];exact(zoe _ _ _ (by simp)).trans ((zod _ _ _ _ rfl).trans rfl)
 have z4:l.cell? ⟨b0,4,none⟩=some (.slice d.tabs.a d.tabs.n d.tabs.c):=by rw[hW,h0];exact(zoe _ _ _ (by simp)).trans ((zod _ _ _ _ rfl).trans rfl)
 have z5:l.cell? ⟨b0,5,none⟩=some (.slice d.nodes.a d.nodes.n d.nodes.c):=by rw[hW,h0];exact(zoe _ _ _ (by simp)).trans ((zod _ _ _ _ rfl).trans rfl)
 have z6:l.cell? ⟨b0,6,none⟩=some (.slice d.out.a d.out.n d.out.c):=by rw[hW,h0];exact(zoe _ _ _ (by simp)).trans ((zod _ _ _ _ rfl).trans rfl)
 have y0:l.cell? ⟨D,0,none⟩=some (.slice x.w.a x.w.n x.w.c):=by rw[hW,E];exact(zod _ _ _ _ (by simp)).trans rfl
 have y1:l.cell? ⟨D,1,none⟩=some (.slice x.ops.a x.ops.n x.ops.c):=by rw[hW,E];exact(zod _ _ _ _ (by simp)).trans rfl
 have L:Hid (Below w.heap.size w l):=by rw[hW];exact ze (ze (zof _ _))
 have P:=hid hW;have Q:=hid h0;have R:=hid E;unfold DV at m;rw[ea]at m;have J:=hid K;have I:=hid G;clear hW h0 E N S B c0 c1 t s K G C;have a0:∀(U:Fn) (first cap:Array Value) (w:World),(Instr.makeFunc U first cap).run Tryz.prog w=.ok (.func U first cap) w:=fun _ _ _ _=>rfl
 by_cases H:(3:Int)<(x.w.n:Int)
 ·have X:=zoY H;rw[if_pos (.inl (by rw[J.out];omega))]at f
  clear H q m A;go_enter Tryz.func140,Tryz.ntmps140
  go_wp2;go_ret;exact⟨by rw[f.out];rfl,ze (ze (zof _ _))⟩
 have X:=zoX H;by_cases M:(5:Int)<(x.ops.n:Int)
 ·have d5:=zoY M;rw[if_pos (.inr (by rw[I.out];omega))]at f
  clear H M q m A;go_enter Tryz.func140,Tryz.ntmps140
  go_wp2;go_ret;exact⟨by rw[f.out];rfl,ze (ze (zof _ _))⟩
 have d5:=zoX M;rw[if_neg (by rw[J.out,I.out];omega)]at f
 have q:=hid (q.out (by omega))
 have m:=hid (m.out (by omega))
 clear H M;go_enter Tryz.func140,Tryz.ntmps140
 go_wp2_with fail
 rw[<-P.out,<-R.out,<-Q.out];clear P R Q k0 k1;go_region_held3 (fun w'=>w'.cell? ⟨b0,0,none⟩=some (.slice d.heads.a d.heads.n d.heads.c)/\w'.cell? ⟨b0,1,none⟩=some (.slice d.mta.a d.mta.n d.mta.c)/\w'.cell? ⟨b0,2,none⟩=some (.slice d.states.a d.states.n d.states.c)/\w'.cell? ⟨b0,3,none⟩=some (.slice (some ⟨g,off,none⟩) d.acts.n d.acts.c)/\w'.cell? ⟨b0,4,none⟩=some (.slice d.tabs.a d.tabs.n d.tabs.c)/\w'.cell? ⟨b0,5,none⟩=some (.slice d.nodes.a d.nodes.n d.nodes.c)/\w'.cell? ⟨b0,6,none⟩=some (.slice d.out.a d.out.n d.out.c)/\w'.cell? ⟨D,0,none⟩=some (.slice x.w.a x.w.n x.w.c)/\w'.cell? ⟨D,1,none⟩=some (.slice x.ops.a x.ops.n x.ops.c))
  (first
   |go_keep
   |(go_split_ands
     exact znF ⟨by assumption,by assumption,by assumption,by assumption,by assumption,by assumption,by assumption,by assumption,by assumption⟩ r))
  (first
   |(go_at_call 176;refine(q.out _ (zh L.out (zof l.heap.size l).drew)).mono ?_;rintro e Z ⟨rfl,r⟩;have u:=hid r)
   |(go_at_call 177;refine(m.out _ (zh (zh L.out (zof l.heap.size l).drew) u.out)).mono ?_;rintro e Z ⟨rfl,r⟩;have F:=hid r)
   |(go_at_call 172;refine(A.out _).mono ?_;rintro e wz ⟨rfl,rfl⟩))
 all_goals
  have HE:=hid (ze (o:=.cells #[.int .i64 FW,.int .i64 FO] 3) (zh (zh (zh L.out (zof l.heap.size l).drew) u.out) F.out));clear L u F;go_wp2;go_ret;exact⟨by rw[f.out];rfl,HE.out⟩
end Go.Proofs.YtdajaaondlekfaaGreat
