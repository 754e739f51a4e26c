import Derived.Test.YtdajaaondlekfaaGreatG10
import Derived.Test.YtdajaaondlekfaaGreatG1
set_option maxHeartbeats 4000000
set_option maxRecDepth 20000
set_option linter.unusedSimpArgs false
namespace Go.Proofs.YtdajaaondlekfaaGreat
open Go.RowKit
theorem zb4(op:Int): -1<=yk op/\yk op<=2:=by
 unfold yk;split
 ·omega
 split
 ·omega
 split<;>omega
theorem zdD{p:PPlan}{zs:List Int}{es:List PushD}{k:Nat}{x:PushD}(h:es[k]?=some x)(left:Int):
 zN p zs (es.drop k) left=(if yk x.op<0\/left<yk x.op then 13 else if x.op=2/\p.width x.r zs=0 then 1 else zN p zs (es.drop (k+1)) (left+(1-yk x.op))):=by
 obtain⟨a,e⟩:=zok.1 h;rw[zoM a,e];rfl
def qg(p:PPlan)(es:List PushD)(zs:List Int)(w:World)(e:Ending)(w':World):Prop:=e=.returned (.int .i64 (xl p es zs))/\Below w.heap.size w w'
abbrev JO(d:PlanD):Obj:=.cells #[.slice d.heads.a d.heads.n d.heads.c,.slice d.mta.a d.mta.n d.mta.c,.slice d.states.a d.states.n d.states.c,.slice d.acts.a d.acts.n d.acts.c,.slice d.tabs.a d.tabs.n d.tabs.c,.slice d.nodes.a d.nodes.n d.nodes.c,.slice d.out.a d.out.n d.out.c] 228
theorem zgb{d:PlanD}{w wr:World}(hb:Below (w.heap.size+1) (w.alloc (JO d)) wr)(i:Nat):wr.cell? ⟨w.heap.size,i,none⟩=(#[.slice d.heads.a d.heads.n d.heads.c,.slice d.mta.a d.mta.n d.mta.c,.slice d.states.a d.states.n d.states.c,.slice d.acts.a d.acts.n d.acts.c,.slice d.tabs.a d.tabs.n d.tabs.c,.slice d.nodes.a d.nodes.n d.nodes.c,.slice d.out.a d.out.n d.out.c]:Array Value)[i]?:=
 (hb.cell (p:=⟨w.heap.size,i,none⟩) (by simp)).trans (zod _ _ _ _ rfl)
theorem ze8(d:PlanD)(e:QSl)(es:List PushD)(M:Option Addr)(an ac:Nat)(zs:List Int)(w:World)(U:d.lie w)(K:QRow 4 PushD.lie w e es)(V:Has .i64 w M an zs):
 Calls Tryz.prog 203 #[d.v,.slice e.a e.n e.c,.slice M an ac] w (qg d.p es zs w):=by
 have B:=K.1;by_cases Y:(8:Int)<(e.n:Int)
 ·have S:Hid (∀w',Below w.heap.size w w'->qg d.p es zs w (.returned (.int .i64 2)) w'):=fun w' hb=>⟨by rw[xl,if_pos (by omega)],hb⟩
  have d8:=zoY Y;clear U K V B;go_enter Tryz.func203,Tryz.ntmps203
  go_wp2;go_ret;exact S.out _ (ze (zof _ _))
 have d8:=zoX Y;have Z:Hid (xl d.p es zs=zN d.p zs es 0):=by show xl d.p es zs=_;rw[xl,if_neg (by omega)]
 have HD:Hid (∀w' R,zN d.p zs es 0=R->Below w.heap.size w w'->qg d.p es zs w (.returned (.int .i64 R)) w'):=fun w' R h hb=>⟨by rw[Z.out,h],hb⟩
 obtain⟨X,ee⟩:∃X,e.a=X:=⟨_,rfl⟩;have HL:=hid U;have S:=hid K;have HZ:=hid V;have HN:=hid B;have J:Hid (Below (w.heap.size+1) (w.alloc (JO d)) (w.alloc (JO d))):=zof _ _;rw[ee];have EE:=hid ee;clear U K V B Z ee;go_enter Tryz.func203,Tryz.ntmps203
 go_wp2;go_loopw [16,7,9,10] (fun q l _ _ wr=>∃k:Nat,∃left:Int,k<=e.n/\q=.int .i64 k/\l=.int .i64 left/\0<=left/\left<=k/\Hid (zN d.p zs es 0=zN d.p zs (es.drop k) left)/\Hid (Below (w.heap.size+1) (w.alloc (JO d)) wr)) (fun q _ _ _ _=>e.n-(intOf q).toNat)
 case atStart=>exact⟨0,0,zon _,rfl,rfl,Int.le_refl _,by simp,rfl,J⟩
 case round=>
  obtain⟨k,left,hk,rfl,rfl,a0,a1,b,hb⟩:=hrel;clear J;have B0:Hid (Below w.heap.size w wr):=(ze (zof w.heap.size w)).trans (hb.out.mono (by omega))
  by_cases N:k<e.n
  ·obtain⟨g,off,x,H,hx,⟨r0,_⟩,⟨r1,_⟩,⟨r2,_⟩,⟨r3,_⟩⟩:=zu (S.out.step PushD.keeps B0.out) N;obtain rfl:X=some ⟨g,off,none⟩:=by rw[<-EE.out];exact H
   have a2:(k:Int)<(e.n:Int):=by omega
   have i:=zdD (p:=d.p) (zs:=zs) hx left;have s:=zgb hb.out;have bo:∀o,Below wr.heap.size wr (wr.alloc o):=fun o=>ze (zof _ _)
   have p0:∀o,(wr.alloc o).cell? ⟨w.heap.size,0,none⟩=some (.slice d.heads.a d.heads.n d.heads.c):=fun o=>za (s 0) (bo o)
   have p1:∀o,(wr.alloc o).cell? ⟨w.heap.size,1,none⟩=some (.slice d.mta.a d.mta.n d.mta.c):=fun o=>za (s 1) (bo o)
   have p2:∀o,(wr.alloc o).cell? ⟨w.heap.size,2,none⟩=some (.slice d.states.a d.states.n d.states.c):=fun o=>za (s 2) (bo o)
   have p3:∀o,(wr.alloc o).cell? ⟨w.heap.size,3,none⟩=some (.slice d.acts.a d.acts.n d.acts.c):=fun o=>za (s 3) (bo o)
   have p4:∀o,(wr.alloc o).cell? ⟨w.heap.size,4,none⟩=some (.slice d.tabs.a d.tabs.n d.tabs.c):=fun o=>za (s 4) (bo o)
   have p5:∀o,(wr.alloc o).cell? ⟨w.heap.size,5,none⟩=some (.slice d.nodes.a d.nodes.n d.nodes.c):=fun o=>za (s 5) (bo o)
   have p6:∀o,(wr.alloc o).cell? ⟨w.heap.size,6,none⟩=some (.slice d.out.a d.out.n d.out.c):=fun o=>za (s 6) (bo o)
   have j:Hid (∀w',Calls Tryz.prog 118 #[.int .i64 x.op] w' fun q O=>q=.returned (.int .i64 (yk x.op))/\O=w'):=fun w'=>zdE x.op w'
   have m:Hid (∀o,Calls Tryz.prog 171 #[d.v,.agg #[.int .i64 x.r.h,.int .i64 x.r.f],.slice M an ac] (wr.alloc o) fun q w'=>q=.returned (.bool (d.p.width x.r zs !=0))/\Below (wr.alloc o).heap.size (wr.alloc o) w'):=fun o=>zbM d x.r M an ac zs _ ((HL.out.step B0.out).step (bo o)) ((HZ.out.step B0.out).step (bo o))
   have A:Hid (∀o,Below (w.heap.size+1) (w.alloc (JO d)) (wr.alloc o)):=fun o=>hb.out.trans ((bo o).mono (by have:=hb.out.size;simpa using this))
   have t:Hid (∀D,Below wr.heap.size wr D->Below (w.heap.size+1) (w.alloc (JO d)) D):=fun D h=>hb.out.trans (h.mono (by have:=hb.out.size;simpa using this))
   have L:=hid bo;have hT:=zb4 x.op;clear s bo H;generalize yk x.op=T at*;by_cases F:T<0
   ·have f0:=zoY F;have C:Hid (zN d.p zs es 0=13):=by show zN d.p zs es 0=13;rw[b.out,i,if_pos (.inl F)]
    clear i m t A b;go_wp2_with fail
    refine(j.out _).mono ?_;rintro q D ⟨rfl,rfl⟩;clear j;go_wp2;go_ret;exact HD.out _ _ C.out (zh B0.out (L.out _))
   have f0:=zoX F;by_cases G:left<T
   ·have f1:=zoY G;have C:Hid (zN d.p zs es 0=13):=by show zN d.p zs es 0=13;rw[b.out,i,if_pos (.inr G)]
    clear i m t A b;go_wp2_with fail
    refine(j.out _).mono ?_;rintro q D ⟨rfl,rfl⟩;clear j;go_wp2;go_ret;exact HD.out _ _ C.out (zh B0.out (L.out _))
   have f1:=zoX G;rw[if_neg (show¬(T<0\/left<T)by omega)]at i
   by_cases h2:x.op=2
   ·have b2:(x.op==2)=true:=by simpa using h2
    by_cases u:d.p.width x.r zs=0
    ·have C:Hid (zN d.p zs es 0=1):=by show zN d.p zs es 0=1;rw[b.out,i,if_pos ⟨h2,u⟩]
     rw[u]at m;clear i t A b h2 u;go_wp2_with fail
     refine(j.out _).mono ?_;rintro q D ⟨rfl,rfl⟩;clear j;go_wp2_with fail
     refine(m.out _).mono ?_;rintro q D ⟨rfl,y⟩;have E:=hid (zh (zh B0.out (L.out _)) y);clear m y;go_wp2;go_ret;exact HD.out _ _ C.out E.out
    ·have P:Hid (zN d.p zs es 0=zN d.p zs (es.drop (k+1)) (left+(1-T))):=by show zN d.p zs es 0=_;rw[b.out,i,if_neg (fun h=>u h.2)]
     have I:(d.p.width x.r zs !=0)=true:=by simpa using u
     rw[I]at m;clear i A b h2 u I;go_wp2_with fail
     refine(j.out _).mono ?_;rintro q D ⟨rfl,rfl⟩;clear j;go_wp2_with fail
     refine(m.out _).mono ?_;rintro q D ⟨rfl,y⟩;have E:=hid (t.out _ (zh (L.out _) y));clear m y t p0 p1 p2 p3 p4 p5 p6 r0 r1 r2 r3;go_wp2;go_roundw
     case rel=>exact⟨k+1,left+(1-T),by omega,by go_num,by go_num,by omega,by omega,P,E⟩
     case measure=>simp[intOf];omega
   ·have b2:(x.op==2)=false:=by simpa using h2
    have P:Hid (zN d.p zs es 0=zN d.p zs (es.drop (k+1)) (left+(1-T))):=by show zN d.p zs es 0=_;rw[b.out,i,if_neg (fun h=>h2 h.1)]
    clear i m t b h2;go_wp2_with fail
    refine(j.out _).mono ?_;rintro q D ⟨rfl,rfl⟩;clear j;go_wp2;go_roundw
    case rel=>exact⟨k+1,left+(1-T),by omega,by go_num,by go_num,by omega,by omega,P,A.out _⟩
    case measure=>simp[intOf];omega
  ·have W:k=e.n:=by omega
   have C:Hid (zN d.p zs es 0=if left≠1 then 13 else 0):=by
    show zN d.p zs es 0=_;rw[b.out,W,<-HN.out,zoP];rfl
   clear b hb;by_cases Q:left=1
   ·subst Q;subst W;rw[if_neg (by simp)]at C
    go_wp2;go_ret;exact HD.out _ _ C.out B0.out
   ·rw[if_pos Q]at C;have b1:(left !=1)=true:=by simpa using Q
    subst W;go_wp2;go_ret;exact HD.out _ _ C.out B0.out
theorem zah(d:PlanD)(n to:Int)(w:World):Calls Tryz.prog 99 #[d.v,.int .i64 n,.int .i64 to] w fun e w'=>e=.returned (.int .i64 (yF d.states.n n to))/\Below w.heap.size w w':=by
 have b:∀o,Below w.heap.size w (w.alloc o):=fun o=>ze (zof _ _)
 by_cases h0:to=1000
 ·subst h0;have hr:Hid (yF d.states.n n 1000=0):=by simp[Hid,yF]
  go_enter Tryz.func99,Tryz.ntmps99
  go_wp2;go_ret;exact⟨by rw[hr.out];rfl,b _⟩
 by_cases a:to=1001
 ·subst a;have hr:Hid (yF d.states.n n 1001=0):=by simp[Hid,yF]
  go_enter Tryz.func99,Tryz.ntmps99
  go_wp2;go_ret;exact⟨by rw[hr.out];rfl,b _⟩
 have b0:(to==1000)=false:=by simpa using h0
 have k:(to==1001)=false:=by simpa using a
 have n01:¬(to=1000\/to=1001):=fun h=>h.elim h0 a
 by_cases h2:to<0
 ·have j:=zoY h2;have hr:Hid (yF d.states.n n to=1):=by show yF _ _ _=1;unfold yF;rw[if_neg n01,if_pos (by omega)]
  clear h0 a n01;go_enter Tryz.func99,Tryz.ntmps99
  go_wp2;go_ret;exact⟨by rw[hr.out];rfl,b _⟩
 have j:=zoX h2;by_cases f:(d.states.n:Int)<=to
 ·have i:=zoY f;have hr:Hid (yF d.states.n n to=1):=by show yF _ _ _=1;unfold yF;rw[if_neg n01,if_pos (by omega)]
  clear h0 a n01;go_enter Tryz.func99,Tryz.ntmps99
  go_wp2;go_ret;exact⟨by rw[hr.out];rfl,b _⟩
 have i:=zoX f;by_cases c:to<=n
 ·have g:=zoY c;have hr:Hid (yF d.states.n n to=11):=by show yF _ _ _=11;unfold yF;rw[if_neg n01,if_neg (by omega),if_pos c]
  clear h0 a n01;go_enter Tryz.func99,Tryz.ntmps99
  go_wp2;go_ret;exact⟨by rw[hr.out];rfl,b _⟩
 ·have g:=zoX c;have hr:Hid (yF d.states.n n to=0):=by show yF _ _ _=0;unfold yF;rw[if_neg n01,if_neg (by omega),if_neg c]
  clear h0 a n01;go_enter Tryz.func99,Tryz.ntmps99
  go_wp2;go_ret;exact⟨by rw[hr.out];rfl,b _⟩
theorem qE(d:PlanD)(k:Int)(w:World):Calls Tryz.prog 64 #[d.v,.int .i64 k] w fun e w'=>e=.returned (.bool (decide (0<=k/\k<(d.heads.n:Int))))/\Below w.heap.size w w':=by
 have b:∀o,Below w.heap.size w (w.alloc o):=fun o=>ze (zof _ _)
 by_cases h0:0<=k
 ·have c:=zoY h0;by_cases a:k<(d.heads.n:Int)
  ·have f:=zoY a;have hr:=hid (zoY (⟨h0,a⟩:0<=k/\k<(d.heads.n:Int)));go_enter Tryz.func64,Tryz.ntmps64
   go_wp2;go_ret;exact⟨by first|rfl|(rw[hr.out];rfl),b _⟩
  ·have f:=zoX a;have hr:=hid (zoX (fun h=>a h.2:¬(0<=k/\k<(d.heads.n:Int))))
   go_enter Tryz.func64,Tryz.ntmps64
   go_wp2;go_ret;exact⟨by first|rfl|(rw[hr.out];rfl),b _⟩
 ·have c:=zoX h0;have hr:=hid (zoX (fun h=>h0 h.1:¬(0<=k/\k<(d.heads.n:Int))))
  go_enter Tryz.func64,Tryz.ntmps64
  go_wp2;go_ret;exact⟨by first|rfl|(rw[hr.out];rfl),b _⟩
theorem zig{p:PPlan}{r:RefD}(h:r.h< -1)(a:r.h≠-3):p.width r []=0:=by
 have:p.fields r.h []=[]:=by
  unfold PPlan.fields;rw[if_neg (by omega)]
  split
  ·rfl
  ·first|rw[if_pos (by omega)]|rw[if_neg a,if_pos (by omega)]
 unfold PPlan.width;rw[this];simp
theorem zf5{p:PPlan}{r:RefD}(b:0<=p.width r []):(-1<=r.h/\0<p.width r [])↔zR p r=0:=by
 unfold zR;constructor
 ·rintro⟨a,h2⟩;rw[if_neg (by omega)]
 ·intro h;by_cases a:r.h= -3\/p.width r []=0
  ·rw[if_pos a]at h;omega
  ·refine⟨?_,by omega⟩
   apply Classical.byContradiction
   intro h2;exact a (.inr (zig (by omega) (fun e=>a (.inl e))))
theorem zf6(d:PlanD)(r:RefD)(w:World)(i:d.lie w)(l:0<=d.p.width r []):
 Calls Tryz.prog 135 #[d.v,.agg #[.int .i64 r.h,.int .i64 r.f]] w fun e w'=>e=.returned (.bool (decide (zR d.p r=0)))/\Below w.heap.size w w':=by
 have a:∀o b,Below w.heap.size w ((w.alloc o).alloc b):=fun o b=>ze (ze (zof _ _))
 have HC:Hid (∀o b,Calls Tryz.prog 97 #[d.v,.agg #[.int .i64 r.h,.int .i64 r.f],.slice none 0 0] ((w.alloc o).alloc b) fun e w'=>e=.returned (.int .i64 (d.p.width r []))/\Below ((w.alloc o).alloc b).heap.size ((w.alloc o).alloc b) w'):=fun o b=>by
  rw[<-qD i];exact jI d r.h r.f none 0 0 [] _ (i.step (a o b)) (zW _ _)
 have j:=hid (zf5 l);have k:=hid a;clear i l;by_cases c: -1<=r.h
 ·have n:=zoY c;have g:Hid (decide (zR d.p r=0)=decide (0<d.p.width r [])):=decide_eq_decide.2 ⟨fun h=>(j.out.2 h).2,fun h=>j.out.1 ⟨c,h⟩⟩
  clear c a;go_enter Tryz.func135,Tryz.ntmps135
  go_wp2_with fail
  refine(HC.out _ _).mono ?_;rintro e q ⟨rfl,hb⟩;have m:=hid (zh (k.out _ _) hb);clear HC hb k;go_wp2;go_ret;exact⟨by rw[g.out];rfl,m.out⟩
 ·have n:=zoX c;have g:Hid (decide (zR d.p r=0)=false):=zoX (fun h=>c (j.out.2 h).1)
  clear c HC;go_enter Tryz.func135,Tryz.ntmps135
  go_wp2;go_ret;exact⟨by rw[g.out];rfl,a _ _⟩
abbrev PO(d:PlanD):Obj:=.cells #[.slice d.heads.a d.heads.n d.heads.c,.slice d.mta.a d.mta.n d.mta.c,.slice d.states.a d.states.n d.states.c,.slice d.acts.a d.acts.n d.acts.c,.slice d.tabs.a d.tabs.n d.tabs.c,.slice d.nodes.a d.nodes.n d.nodes.c,.slice d.out.a d.out.n d.out.c] 29
theorem zf7{d:PlanD}{w wr:World}(hb:Below (w.heap.size+1) (w.alloc (PO d)) wr)(i:Nat):wr.cell? ⟨w.heap.size,i,none⟩=(#[.slice d.heads.a d.heads.n d.heads.c,.slice d.mta.a d.mta.n d.mta.c,.slice d.states.a d.states.n d.states.c,.slice d.acts.a d.acts.n d.acts.c,.slice d.tabs.a d.tabs.n d.tabs.c,.slice d.nodes.a d.nodes.n d.nodes.c,.slice d.out.a d.out.n d.out.c]:Array Value)[i]?:=
 (hb.cell (p:=⟨w.heap.size,i,none⟩) (by simp)).trans (zod _ _ _ _ rfl)
theorem zeX(d:PlanD)(e:QSl)(es:List PushD)(aa:Option Addr)(an ac:Nat)(zs:List Int)(w:World)(hl:d.lie w)(he:QRow 4 PushD.lie w e es)(hz:Has .i64 w aa an zs):
 Calls Tryz.prog 102 #[d.v,.slice e.a e.n e.c,.slice aa an ac] w (qg d.p es zs w):=by
 have K:=he.1;by_cases h8:(8:Int)<(e.n:Int)
 ·have HE:Hid (∀w',Below w.heap.size w w'->qg d.p es zs w (.returned (.int .i64 2)) w'):=fun w' hb=>⟨by rw[xl,if_pos (by omega)],hb⟩
  have d8:=zoY h8;clear hl he hz K;go_enter Tryz.func102,Tryz.ntmps102
  go_wp2;go_ret;exact HE.out _ (ze (zof _ _))
 have d8:=zoX h8;have HX:Hid (xl d.p es zs=zN d.p zs es 0):=by show xl d.p es zs=_;rw[xl,if_neg (by omega)]
 have HD:Hid (∀w' R,zN d.p zs es 0=R->Below w.heap.size w w'->qg d.p es zs w (.returned (.int .i64 R)) w'):=fun w' R h hb=>⟨by rw[HX.out,h],hb⟩
 obtain⟨ea,ee⟩:∃ea,e.a=ea:=⟨_,rfl⟩;have HL:=hid hl;have HE:=hid he;have HZ:=hid hz;have HN:=hid K;have a7:Hid (Below (w.heap.size+1) (w.alloc (PO d)) (w.alloc (PO d))):=zof _ _;rw[ee];have EE:=hid ee;clear hl he hz K HX ee;go_enter Tryz.func102,Tryz.ntmps102
 go_wp2;go_loopw [8,7,9] (fun q l _ wr=>∃k:Nat,∃left:Int,k<=e.n/\q=.int .i64 k/\l=.int .i64 left/\0<=left/\left<=k/\Hid (zN d.p zs es 0=zN d.p zs (es.drop k) left)/\Hid (Below (w.heap.size+1) (w.alloc (PO d)) wr)) (fun q _ _ _=>e.n-(intOf q).toNat)
 case atStart=>exact⟨0,0,zon _,rfl,rfl,Int.le_refl _,by simp,rfl,a7⟩
 case round=>
  obtain⟨k,left,hk,rfl,rfl,a9,b0,j,hb⟩:=hrel;clear a7;have B0:Hid (Below w.heap.size w wr):=(ze (zof w.heap.size w)).trans (hb.out.mono (by omega))
  by_cases a8:k<e.n
  ·obtain⟨g,off,x,a6,hx,⟨r0,_⟩,⟨r1,_⟩,⟨L,_⟩,⟨r3,_⟩⟩:=zu (HE.out.step PushD.keeps B0.out) a8;obtain rfl:ea=some ⟨g,off,none⟩:=by rw[<-EE.out];exact a6
   have b4:(k:Int)<(e.n:Int):=by omega
   have m:=zdD (p:=d.p) (zs:=zs) hx left;have u:=zf7 hb.out;have E:wr.cell? ⟨w.heap.size,0,none⟩=some (.slice d.heads.a d.heads.n d.heads.c):=u 0;have H:wr.cell? ⟨w.heap.size,1,none⟩=some (.slice d.mta.a d.mta.n d.mta.c):=u 1;have D:wr.cell? ⟨w.heap.size,2,none⟩=some (.slice d.states.a d.states.n d.states.c):=u 2;have G:wr.cell? ⟨w.heap.size,3,none⟩=some (.slice d.acts.a d.acts.n d.acts.c):=u 3;have M:wr.cell? ⟨w.heap.size,4,none⟩=some (.slice d.tabs.a d.tabs.n d.tabs.c):=u 4;have F:wr.cell? ⟨w.heap.size,5,none⟩=some (.slice d.nodes.a d.nodes.n d.nodes.c):=u 5;have N:wr.cell? ⟨w.heap.size,6,none⟩=some (.slice d.out.a d.out.n d.out.c):=u 6;have o:Hid (Calls Tryz.prog 136 #[.int .i64 x.op] wr fun q A=>q=.returned (.int .i64 (yk x.op))/\Below wr.heap.size wr A):=zfe x.op wr
   have i:Hid (∀w',Below wr.heap.size wr w'->Calls Tryz.prog 97 #[d.v,.agg #[.int .i64 x.r.h,.int .i64 x.r.f],.slice aa an ac] w' fun q A=>q=.returned (.int .i64 (d.p.width x.r zs))/\Below w'.heap.size w' A):=fun w' h=>by
    rw[<-qD HL.out];exact jI d x.r.h x.r.f aa an ac zs _ (HL.out.step (zh B0.out h)) (HZ.out.step (zh B0.out h))
   have y:Hid (∀Q,Below wr.heap.size wr Q->Below (w.heap.size+1) (w.alloc (PO d)) Q):=fun Q h=>hb.out.trans (h.mono (by have:=hb.out.size;simpa using this))
   have hT:=zb4 x.op;clear u a6;generalize yk x.op=T at*;by_cases a4:T<0
   ·have f0:=zoY a4;have P:Hid (zN d.p zs es 0=13):=by show zN d.p zs es 0=13;rw[j.out,m,if_pos (.inl a4)]
    clear m i y j;go_wp2_with fail
    refine o.out.mono ?_;rintro q Q ⟨rfl,b⟩;have B:=hid (zh B0.out b);clear o b;go_wp2;go_ret;exact HD.out _ _ P.out B.out
   have f0:=zoX a4;by_cases a5:left<T
   ·have f1:=zoY a5;have P:Hid (zN d.p zs es 0=13):=by show zN d.p zs es 0=13;rw[j.out,m,if_pos (.inr a5)]
    clear m i y j;go_wp2_with fail
    refine o.out.mono ?_;rintro q Q ⟨rfl,b⟩;have B:=hid (zh B0.out b);clear o b;go_wp2;go_ret;exact HD.out _ _ P.out B.out
   have f1:=zoX a5;rw[if_neg (show¬(T<0\/left<T)by omega)]at m
   by_cases h2:x.op=2
   ·have b2:(x.op==2)=true:=by simpa using h2
    by_cases C:d.p.width x.r zs=0
    ·have P:Hid (zN d.p zs es 0=1):=by show zN d.p zs es 0=1;rw[j.out,m,if_pos ⟨h2,C⟩]
     rw[C]at i;clear m y j h2 C;go_wp2_with fail
     refine o.out.mono ?_;rintro q Q ⟨rfl,b⟩;have r0:=za r0 b;have r1:=za r1 b;have L:=za L b;have E:=za E b;have H:=za H b;have D:=za D b;have G:=za G b;have M:=za M b;have F:=za F b;have N:=za N b;have V:=zm r0;have U:=zm r1;have Z:=zm L;have S:=zm E;have W:=zm H;have a3:=zm D;have Y:=zm G;have a0:=zm M;have a2:=zm F;have a1:=zm N;have i:Hid (∀p:zq Q,Calls Tryz.prog 97 #[d.v,.agg #[.int .i64 x.r.h,.int .i64 x.r.f],.slice aa an ac] p.to fun q A=>q=.returned (.int .i64 0)/\Below p.to.heap.size p.to A):=fun p=>i.out p.to (zh b p.h)
     have B:=hid (zh B0.out b);clear o b;go_wp2_with fail
     haveI inhB:∀w:World,Inhabited (zq w):=fun w=>⟨⟨w,zof _ _⟩⟩
     refine zi (by kernel_rfl) (by kernel_rfl) ?_
     repeat (go_big_quiet_step (first|(go_at_call 97;exact zT _ (i.out _))))
     refine wpQuiet_nil ?_;intro wq J;obtain⟨⟨_,s⟩,t⟩:=J;subst t;have I:=hid (zh B.out s);clear i s B;go_wp2;go_ret;exact HD.out _ _ P.out I.out
    ·have HG:Hid (zN d.p zs es 0=zN d.p zs (es.drop (k+1)) (left-T+1)):=by show zN d.p zs es 0=_;rw[j.out,m,if_neg (fun h=>C h.2)];congr 1;omega
     have b3:(d.p.width x.r zs==0)=false:=by simpa using C
     generalize d.p.width x.r zs=X at*;clear m j h2 C;go_wp2_with fail
     refine o.out.mono ?_;rintro q Q ⟨rfl,b⟩;have r0:=za r0 b;have r1:=za r1 b;have L:=za L b;have E:=za E b;have H:=za H b;have D:=za D b;have G:=za G b;have M:=za M b;have F:=za F b;have N:=za N b;have V:=zm r0;have U:=zm r1;have Z:=zm L;have S:=zm E;have W:=zm H;have a3:=zm D;have Y:=zm G;have a0:=zm M;have a2:=zm F;have a1:=zm N;have i:Hid (∀p:zq Q,Calls Tryz.prog 97 #[d.v,.agg #[.int .i64 x.r.h,.int .i64 x.r.f],.slice aa an ac] p.to fun q A=>q=.returned (.int .i64 X)/\Below p.to.heap.size p.to A):=fun p=>i.out p.to (zh b p.h)
     have O:=hid b;clear o b;go_wp2_with fail
     haveI inhB:∀w:World,Inhabited (zq w):=fun w=>⟨⟨w,zof _ _⟩⟩
     refine zi (by kernel_rfl) (by kernel_rfl) ?_
     repeat (go_big_quiet_step (first|(go_at_call 97;exact zT _ (i.out _))))
     refine wpQuiet_nil ?_;intro wq J;obtain⟨⟨_,s⟩,t⟩:=J;subst t;have I:=hid (y.out _ (zh O.out s));clear i s O y r0 r1 L r3 E H D G M F N V U Z S W a3 Y a0 a2 a1;go_wp2;go_roundw
     case rel=>exact⟨k+1,left-T+1,by omega,by go_num,by go_num,by omega,by omega,HG,I⟩
     case measure=>simp[intOf];omega
   ·have b2:(x.op==2)=false:=by simpa using h2
    have HG:Hid (zN d.p zs es 0=zN d.p zs (es.drop (k+1)) (left-T+1)):=by show zN d.p zs es 0=_;rw[j.out,m,if_neg (fun h=>h2 h.1)];congr 1;omega
    clear m j h2 i;go_wp2_with fail
    refine o.out.mono ?_;rintro q Q ⟨rfl,b⟩;have r0:=za r0 b;have r1:=za r1 b;have L:=za L b;have E:=za E b;have H:=za H b;have D:=za D b;have G:=za G b;have M:=za M b;have F:=za F b;have N:=za N b;have V:=zm r0;have U:=zm r1;have Z:=zm L;have S:=zm E;have W:=zm H;have a3:=zm D;have Y:=zm G;have a0:=zm M;have a2:=zm F;have a1:=zm N;have O:=hid b;clear o b;go_wp2_with fail
    haveI inhB:∀w:World,Inhabited (zq w):=fun w=>⟨⟨w,zof _ _⟩⟩
    refine zi (by kernel_rfl) (by kernel_rfl) ?_
    repeat (go_big_quiet_step (fail))
    refine wpQuiet_nil ?_;intro wq J;obtain⟨⟨_,s⟩,t⟩:=J;subst t;have I:=hid (y.out _ (zh O.out s));clear s O y r0 r1 L r3 E H D G M F N V U Z S W a3 Y a0 a2 a1;go_wp2;go_roundw
    case rel=>exact⟨k+1,left-T+1,by omega,by go_num,by go_num,by omega,by omega,HG,I⟩
    case measure=>simp[intOf];omega
  ·have ek:k=e.n:=by omega
   have P:Hid (zN d.p zs es 0=if left≠1 then 13 else 0):=by
    show zN d.p zs es 0=_;rw[j.out,ek,<-HN.out,zoP];rfl
   clear j hb;by_cases h1:left=1
   ·subst h1;subst ek;rw[if_neg (by simp)]at P
    go_wp2;go_ret;exact HD.out _ _ P.out B0.out
   ·rw[if_pos h1]at P;have b1:(left !=1)=true:=by simpa using h1
    subst ek;go_wp2;go_ret;exact HD.out _ _ P.out B0.out
end Go.Proofs.YtdajaaondlekfaaGreat
