import Derived.Test.YtdajaaondlekfaaGreatVWWays
import Derived.Test.YtdajaaondlekfaaGreatG28
set_option maxHeartbeats 16000000
set_option maxRecDepth 20000
set_option linter.unusedSimpArgs false
namespace Go.Proofs.YtdajaaondlekfaaGreat
open Go.RowKit
theorem zaT{w w':World}{k o:Nat}{v:Value}(h:w'.heap[k]?=w.heap[k]?)(a:w.cell? ⟨k,o,none⟩=some v):w'.cell? ⟨k,o,none⟩=some v:=by
 simp only[World.cell?]at a ⊢;rw[h];exact a
theorem ziR{f:IntKind}{w w':World}{a:Option Addr}{n:Nat}{zs:List Int}{c:Option Nat}(h:Has f w a n zs)(d:w.grownBy w' c)(j:0<n->∀g o q,a=some ⟨g,o,q⟩->some g≠c):Has f w' a n zs:=by
 refine⟨h.1,h.2.1,?_⟩;rcases h.2.2 with e|⟨b,off,e,hb,k⟩
 ·exact .inl e
 ·exact .inr ⟨b,off,e,zom hb d.size,fun i hi=>zaT (d.block b hb (j (by omega) _ _ _ e)) (k i hi)⟩
theorem zhm{d:PlanD}(a:d.p.ss.length=d.states.n)(c:(zD d.p).1=0){y:Wk.Way}(e:y.st<d.states.n){x:StateD}(b:d.ss[y.st]?=some x):Wk.succW (yj d.p c) (jC d.p) y=(xD d.states.n (ye x.p)).map (fun j=>(⟨j,y.tk|||zv x.head,y.by_+szP d.p x.p⟩:Wk.Way)):=by
 unfold Wk.succW;rw[if_neg (by show¬y.st=d.p.ss.length;omega)]
 show(xD d.p.ss.length (ye (d.p.ss.getD y.st PState.z))).map (fun j=>(⟨j,y.tk|||zv (d.p.ss.getD y.st PState.z).head,y.by_+szP d.p (d.p.ss.getD y.st PState.z)⟩:Wk.Way))=_
 rw[zfs b,a];rfl
theorem zdN{t w:World}{A N l K j f d m:Nat}{L:List Wk.Way}{ka:Option Addr}{zs:List Int}(J:OwnW t.heap.size (some ⟨A,0,none⟩) N L w)(F:Has .i64 w ka m zs)(G:w.cell? ⟨l,1,none⟩=some (.int .u64 (f:Int))/\w.cell? ⟨l,2,none⟩=some (.int .i64 (d:Int)))(E:A≠l)(M:0<m->∀g o r,ka=some ⟨g,o,r⟩->A≠g)(D:Below t.heap.size t w)(R:L.length=K)(S:K<=100000):
 ∃s a n,(Builtin.append_ #[107,107] 107 #[.slice (some ⟨A,0,none⟩) K N,.slice (some ⟨w.heap.size,0,none⟩) 1 1]).run Tryz.prog (w.alloc (.cells #[.int .i64 (j:Int),.int .u64 (f:Int),.int .i64 (d:Int)] 111)).drew=.ok (.slice (some ⟨s,0,none⟩) (K+1) a) n/\OwnW t.heap.size (some ⟨s,0,none⟩) a (L++[⟨j,f,d⟩]) n/\Below t.heap.size t n/\(Has .i64 n ka m zs/\(n.cell? ⟨l,1,none⟩=some (.int .u64 (f:Int))/\n.cell? ⟨l,2,none⟩=some (.int .i64 (d:Int)))/\True)/\(s≠l/\(0<m->∀g o r,ka=some ⟨g,o,r⟩->s≠g)):=by
 subst R;have q:Below w.heap.size w (w.alloc (.cells #[.int .i64 (j:Int),.int .u64 (f:Int),.int .i64 (d:Int)] 111)).drew:=(ze (zof _ _)).drew;have P:l<w.heap.size:=zog w _ G.1;obtain⟨s,a,n,y,O,B,x⟩:=xL (w:=(w.alloc (.cells #[.int .i64 (j:Int),.int .u64 (f:Int),.int .i64 (d:Int)] 111)).drew) (ad:=⟨w.heap.size,0,none⟩) (m:=1) (c:=1) (news:=jK ⟨j,f,d⟩) 107 Tryz.underlying107 Tryz.infoWay rfl (by decide) (ya J q) rfl (fun i u I=>by
  have:=zbH (w:=w) (cs:=jK ⟨j,f,d⟩) (T:=111) i u I;exact this) (fun u I=>zdM [⟨j,f,d⟩] u (by simpa using I)) (by decide) (by unfold maxLen;omega) (by omega) (by have:=q.size;have:=D.size;omega)
 have H:w.heap.size<=(w.alloc (.cells #[.int .i64 (j:Int),.int .u64 (f:Int),.int .i64 (d:Int)] 111)).drew.heap.size:=q.size;refine⟨s,a,n,y,?_,(zh D q).grown B (zoz D.size H) fun k Q=>(J.lt k Q).1,⟨ziR (F.step q) B fun h0 g o r e h=>M h0 g o r e (by simpa[Value.ownBlock]using h.symm),⟨?_,?_⟩,trivial⟩,?_,?_⟩
 ·unfold OwnW;rw[zor,List.length_singleton,List.flatMap_append,List.flatMap_cons,List.flatMap_nil,List.append_nil];exact O
 ·exact zaT (B.block l (by omega) (by simp[Value.ownBlock];exact fun h=>E h.symm)) (za G.1 q)
 ·exact zaT (B.block l (by omega) (by simp[Value.ownBlock];exact fun h=>E h.symm)) (za G.2 q)
 ·rcases x with h|h
  ·simp only[zoo,Addr.mk.injEq,and_true]at h;rw[<-h];exact E
  ·omega
 ·intro h0 g o r e;rcases x with h|h
  ·simp only[zoo,Addr.mk.injEq,and_true]at h;rw[<-h];exact M h0 g o r e
  ·rcases F.2.2 with C|⟨b,off,C,hb,_⟩
   ·have:=F.1;rw[C]at this;simp at this;omega
   ·rw[e]at C;simp only[zoo,Addr.mk.injEq]at C;omega
theorem zk5(d:PlanD)(w:World)(hl:d.lie w)(q:(zD d.p).1=0):Calls Tryz.prog 29 #[d.v] w (zfx d.p q w):=by
 have en:d.p.ss.length=d.states.n:=by simp[PlanD.p,hl.ss.1]
 have d8:d.states.n<=8:=by have:(d.p.ss.length:Int)<=8:=(zB q 2 (by decide)).2.1;omega
 obtain⟨l,hW1⟩:∃l,l=w.alloc (.cells #[.slice d.heads.a d.heads.n d.heads.c,.slice d.mta.a d.mta.n d.mta.c,.slice d.states.a d.states.n d.states.c,.slice d.acts.a d.acts.n d.acts.c,.slice d.tabs.a d.tabs.n d.tabs.c,.slice d.nodes.a d.nodes.n d.nodes.c,.slice d.out.a d.out.n d.out.c] 29):=⟨_,rfl⟩;obtain⟨s,es⟩:∃s,s=w.heap.size:=⟨_,rfl⟩;have e8:Below w.heap.size w l:=by rw[hW1];exact ze (zof _ _)
 have e4:l.cell? ⟨s,0,none⟩=some (.slice d.heads.a d.heads.n d.heads.c)/\l.cell? ⟨s,1,none⟩=some (.slice d.mta.a d.mta.n d.mta.c)/\l.cell? ⟨s,2,none⟩=some (.slice d.states.a d.states.n d.states.c)/\l.cell? ⟨s,3,none⟩=some (.slice d.acts.a d.acts.n d.acts.c)/\l.cell? ⟨s,4,none⟩=some (.slice d.tabs.a d.tabs.n d.tabs.c)/\l.cell? ⟨s,5,none⟩=some (.slice d.nodes.a d.nodes.n d.nodes.c)/\l.cell? ⟨s,6,none⟩=some (.slice d.out.a d.out.n d.out.c):=by rw[hW1,es];refine⟨?_,?_,?_,?_,?_,?_,?_⟩<;>exact(zod _ _ _ _ rfl).trans rfl
 obtain⟨W2,hW2⟩:∃W2,W2=l.alloc (.cells #[.int .i64 0,.int .u64 0,.int .i64 0] 111):=⟨_,rfl⟩;have h7:Hid (Below l.heap.size l W2):=by rw[hW2];exact ze (zof _ _)
 obtain⟨g0,eg0⟩:∃g0,g0=l.heap.size:=⟨_,rfl⟩;have f5:Hid (OwnW l.heap.size (some ⟨g0,0,none⟩) 1 [⟨0,0,0⟩] W2):=by rw[eg0,hW2];exact zk4 l
 have E2:Hid ((w.alloc (.cells #[.slice d.heads.a d.heads.n d.heads.c,.slice d.mta.a d.mta.n d.mta.c,.slice d.states.a d.states.n d.states.c,.slice d.acts.a d.acts.n d.acts.c,.slice d.tabs.a d.tabs.n d.tabs.c,.slice d.nodes.a d.nodes.n d.nodes.c,.slice d.out.a d.out.n d.out.c] 29)).alloc (.cells #[.int .i64 0,.int .u64 0,.int .i64 0] 111)=W2):=by show _=_;rw[hW2,hW1]
 have EG:Hid (w.heap.size+1=g0):=by show _=_;rw[eg0,hW1];simp
 have ES:=hid es.symm;have HL:=hid hl;have HC:=hid q;have a4:=hid d8;have EN:=hid en;have D:=hid e8;have d9:=hid e4;have i7:Hid (g0=l.heap.size):=eg0;clear hl d8 en e8 e4 hW1 hW2 es eg0;have j1:=hid q;go_enter Tryz.func29,Tryz.ntmps29
 go_wp2;rw[E2.out,EG.out,ES.out];clear E2 EG ES;go_loopw [4,3,5,6,7,8,9,10] (fun q4 q3 _ _ _ _ _ _ wr=>∃(i:Nat) (L:List Wk.Way) (la:Nat) (lc:Nat),i<=L.length/\q4=.int .i64 i/\q3=.slice (some ⟨la,0,none⟩) L.length lc/\Hid (Wk.Gone (yj d.p q) (jC d.p) i L)/\Hid (OwnW l.heap.size (some ⟨la,0,none⟩) lc L wr)/\Hid (Below l.heap.size l wr)) (fun q4 _ _ _ _ _ _ _ _=>2^(d.states.n+1)+1-(intOf q4).toNat)
 case atStart=>exact⟨0,[⟨0,0,0⟩],g0,1,zon _,rfl,rfl,Wk.Gone.start _ _,f5,h7⟩
 case round=>
  obtain⟨i,L,N,lc,hi,rfl,rfl,Y,HO,HB⟩:=hrel;have d0:Hid (L.length<=512):=by
   have h1:=Y.out.len;have h2:2^((yj d.p q).n+1)<=2^9:=Nat.pow_le_pow_right (by decide) (by show d.p.ss.length+1<=9;rw[EN.out];have:=a4.out;omega)
   show L.length<=512;omega
  have d4:Hid (N<wr.heap.size):=(HO.out.lt N rfl).2;by_cases h4:i<L.length
  ·have h5:(i:Int)<(L.length:Int):=by omega
   obtain⟨y,hy⟩:∃y,L[i]?=some y:=⟨L[i],zoh h4⟩;obtain⟨i9,e5,i4,q0,q1,q2⟩:=HO.out.at hy;simp only[zoo,Addr.mk.injEq,and_true]at e5;subst e5;have c6:y.st<=d.states.n:=by have h:=Y.out.st y (zol hy);rw[<-EN.out];exact h
   have a5:=zgB q Y.out y (zol hy);have b1:Hid (Wk.Gone (yj d.p q) (jC d.p) (i+1) (L++Wk.succW (yj d.p q) (jC d.p) y)):=Y.out.next (qK q) (fun j=>jJ _ _) hy
   obtain⟨z0,z1,z2,z3,z4,z5,z6⟩:=kW d9.out HB.out;have g1:s<wr.heap.size:=zog wr _ z0;have i1:=d0.out;by_cases f3:y.st=d.states.n
   ·have f0:((y.st:Int)==(d.states.n:Int))=true:=by rw[f3];simp
    have RG:Hid (Wk.Gone (yj d.p q) (jC d.p) (i+1) L):=by
     have h:=b1.out;have e:Wk.succW (yj d.p q) (jC d.p) y=[]:=by unfold Wk.succW;rw[if_pos (by show y.st=d.p.ss.length;rw[EN.out];exact f3)]
     rw[e,List.append_nil]at h;exact h
    have RO:Hid (∀o,OwnW l.heap.size (some ⟨N,0,none⟩) lc L (wr.alloc o)):=fun o=>HO.out.step (ze (zof _ _))
    have RB:Hid (∀o,Below l.heap.size l (wr.alloc o)):=fun o=>ze HB.out
    have a1:Hid (i<2^(d.states.n+1)):=by have h1:=Y.out.len;have h2:(yj d.p q).n=d.states.n:=EN.out;show i<_;rw[h2]at h1;omega
    clear Y HO HB b1 a5 c6;go_wp2;go_roundw
    case rel=>exact⟨i+1,L,_,_,by omega,by go_num,rfl,RG,RO.out _,RB.out _⟩
    case measure=>have:=a1.out;simp[intOf];omega
   ·have C:y.st<d.states.n:=by omega
    have f0:((y.st:Int)==(d.states.n:Int))=false:=by rw[beq_eq_false_iff_ne];omega
    obtain⟨sg,so,x,ea,hx,hp⟩:=zu (HL.out.step (zh D.out HB.out)).ss C;rw[ea]at z2;obtain⟨⟨k0,_⟩,⟨k1,_⟩,⟨k2,_⟩,⟨k3,_⟩,⟨k4,_⟩,_⟩:=hp;have e0:=hid hx;have d6:sg<wr.heap.size:=zog wr _ k0;have d1:Hid (qJ d.p y.st x.p):=by have:=zam q (i:=y.st) (by rw[EN.out];exact C);rwa[zfs hx]at this
    have i0:(y.st:Int)<(d.states.n:Int):=by omega
    have i2:(0:Int)<=(y.st:Int):=by omega
    have h8:x.head= -1\/0<=x.head/\x.head<(d.p.hs.length:Int):=d1.out.head;by_cases hh:x.head<0
    ·obtain⟨U,hW8⟩:∃U,U=(wr.alloc (.cells #[.int .i64 (y.st:Int),.int .u64 (y.tk:Int),.int .i64 (y.by_:Int)] 111)).alloc (.cells #[.int .i64 x.head,.int .i64 x.r.h,.int .i64 x.r.f,.slice x.cases.a x.cases.n x.cases.c,.int .i64 x.els] 60):=⟨_,rfl⟩;have i3:¬(0:Int)<=x.head:=by omega
     obtain⟨b,m⟩:∃b,b=wr.heap.size:=⟨_,rfl⟩;obtain⟨u,hTK⟩:∃u,u=y.tk:=⟨_,rfl⟩;obtain⟨t,hBY⟩:∃t,t=y.by_:=⟨_,rfl⟩;have b7:Below wr.heap.size wr U:=by rw[hW8];exact ze (ze (zof _ _))
     have V:=hid (zh HB.out b7);have a0:=hid (HO.out.step b7);have P:Hid (U.cell? ⟨b,1,none⟩=some (.int .u64 (u:Int))/\U.cell? ⟨b,2,none⟩=some (.int .i64 (t:Int))):=by
      rw[hW8,m,hTK,hBY];exact⟨(zoe _ _ _ (by simp)).trans ((zod _ _ _ _ rfl).trans rfl),(zoe _ _ _ (by simp)).trans ((zod _ _ _ _ rfl).trans rfl)⟩
     have b0:Hid (N<U.heap.size):=zom d4.out b7.size;have b8:Hid (N≠b):=by show N≠b;have:=d4.out;omega
     have a9:Hid (Wk.succW (yj d.p q) (jC d.p) y=(xD d.states.n (ye x.p)).map (fun j=>(⟨j,u,t⟩:Wk.Way))):=by
      show _=_;rw[zhm (EN.out) q C hx,hTK,hBY];have e1:zv x.head=0:=by unfold zv;rw[if_pos hh]
      have e2:szP d.p x.p=0:=by unfold szP;rw[if_pos (show x.p.head<0 from hh)]
      rw[e1,e2,Nat.or_zero,Nat.add_zero]
     have a1:Hid (i<2^(d.states.n+1)):=by have h1:=Y.out.len;have h2:(yj d.p q).n=d.states.n:=EN.out;show i<_;rw[h2]at h1;omega
     have E8:=hid hW8;have E5:=hid m;have G:=hid (zdL (HL.out.step (zh D.out V.out)) C e0.out d1.out a4.out);unfold PlanD.v at G;rw[ea]at G;clear hW8 m hTK hBY b7 Y HO HB a5 c6;go_wp2_with fail
     rw[<-E8.out,<-E5.out];clear E8 E5 k0 k1 k2 k3 k4 q0 q1 q2 z0 z1 z2 z3 z4 z5 z6;refine G.out.mono ?_;rintro e w9 ⟨ka,kc,rfl,T,J,B⟩;have c3:=hid (zh V.out B);have b9:=hid (a0.out.step B);obtain⟨M,hM⟩:∃M,M=xD d.states.n (ye x.p):=⟨_,rfl⟩;rw[<-hM]at T ⊢;have HM:=hid hM;have HV:=hid (And.intro (za P.out.1 B) (za P.out.2 B));have H9:=hid T;have c5:Hid (0<M.length->∀g o qq,ka=some ⟨g,o,qq⟩->N≠g):=fun _ g o qq e h=>by have:=J g o qq e;have:=b0.out;omega
     have a7:Hid (N≠b):=b8.out;have a8:Hid (M.length<=9):=by
      show M.length<=9;rw[HM.out];exact zak (jJ _ _) fun j hj=>by obtain⟨_,_,_,h⟩:=mem_leadR.1 hj;have:=a4.out;omega
     clear G T J B hM V a0 P;go_wp2;go_loopw [10,3] (fun W q3 A=>∃(k:Nat) (R:Nat) (gc:Nat),k<=M.length/\W=.int .i64 k/\q3=.slice (some ⟨R,0,none⟩) (L.length+k) gc/\Hid (OwnW l.heap.size (some ⟨R,0,none⟩) gc (L++(M.take k).map (fun j=>(⟨j,u,t⟩:Wk.Way))) A)/\Hid (A.cell? ⟨b,1,none⟩=some (.int .u64 (u:Int))/\A.cell? ⟨b,2,none⟩=some (.int .i64 (t:Int)))/\Hid (Has .i64 A ka M.length (M.map (fun j:Nat=>(j:Int))))/\Hid (R≠b)/\Hid (0<M.length->∀g o qq,ka=some ⟨g,o,qq⟩->R≠g)/\Hid (Below l.heap.size l A)) (fun W _ _=>M.length-(intOf W).toNat)
     case atStart=>exact⟨0,N,lc,zon _,rfl,rfl,by show OwnW _ _ _ (L++[]) _;rw[List.append_nil];exact b9.out,HV,H9,a7,c5,c3⟩
     case round=>
      obtain⟨k,R,gc,hk,rfl,rfl,E,F,H,O,Q,X⟩:=hrel;by_cases a2:k<M.length
      ·have c8:(k:Int)<(M.length:Int):=by omega
       obtain⟨mb,mo,c1,d3,a6⟩:=H.out.some (by omega)
       obtain rfl:ka=some ⟨mb,mo,none⟩:=c1;have g4:=a8.out;have hm:=a6 k a2;obtain⟨j,hj⟩:∃j,M[k]?=some j:=⟨M[k],zoh a2⟩;have a3:(M.map (fun j:Nat=>(j:Int))).getD k 0=(j:Int):=by rw[zoi,zoy,hj];rfl
       rw[a3]at hm;obtain⟨n1,n2⟩:=F.out;obtain⟨g6,I,w6,S,NO,NB,NF,NG⟩:=zdN E.out H.out F.out O.out Q.out X.out (j:=j) (K:=L.length+k) (by simp;omega) (by have:=d0.out;have:=a8.out;omega)
       have ND:Hid (L++(M.take (k+1)).map (fun j=>(⟨j,u,t⟩:Wk.Way))=L++(M.take k).map (fun j=>(⟨j,u,t⟩:Wk.Way))++[⟨j,u,t⟩]):=by
        show _=_;rw[zoI,hj];simp
       obtain⟨NH,NV,NW⟩:=NF;have RO:Hid (OwnW l.heap.size (some ⟨g6,0,none⟩) I (L++(M.take (k+1)).map (fun j=>(⟨j,u,t⟩:Wk.Way))) w6):=by show OwnW _ _ _ _ _;rw[ND.out];exact NO
       have RV:=hid NV;have RH:=hid NH;have RB:=hid NB;have RG:=hid NG.1;have RF:=hid NG.2;clear hj a3 a6 d3 NO NB NH NV NW NG ND E F H O Q X;go_wp2_with fail
       go_region_law (first
        |(refine zac rfl _ _ rfl (by simp[Act.eval]) (by simp[Act.eval]) S ?_))
       all_goals
        go_wp2;go_roundw
        case rel=>exact⟨k+1,g6,I,by omega,by go_num,by rw[Nat.add_assoc],RO,RV,RH,RG,RF,RB⟩
        case measure=>simp[intOf];omega
      ·have ek:k=M.length:=by omega
       have c8:¬(k:Int)<(M.length:Int):=by omega
       have RO:Hid (OwnW l.heap.size (some ⟨R,0,none⟩) gc (L++Wk.succW (yj d.p q) (jC d.p) y) wr):=by
        have h:=E.out;have e:Wk.succW (yj d.p q) (jC d.p) y=(M.take k).map (fun j=>(⟨j,u,t⟩:Wk.Way)):=by
         rw[ek,List.take_length,a9.out,HM.out]
        show OwnW _ _ _ _ _;rw[e];exact h
       have RL:Hid ((L++Wk.succW (yj d.p q) (jC d.p) y).length=L.length+k):=by
        show _=_;have e:Wk.succW (yj d.p q) (jC d.p) y=M.map (fun j=>(⟨j,u,t⟩:Wk.Way)):=by rw[a9.out,HM.out]
        rw[e,zor,zoE,ek]
       clear E F H O Q ek;go_wp2;go_roundw
       case rel=>exact⟨i+1,L++Wk.succW (yj d.p q) (jC d.p) y,R,gc,by rw[RL.out];omega,by go_num,by rw[RL.out],b1,RO,X⟩
       case measure=>have:=a1.out;simp[intOf];omega
    ·have h0:(0:Int)<=x.head:=by omega
     have e6:(d.p.hs.length:Int)<=6:=(zB q 0 (by decide)).2.1
     have eh:d.p.hs.length=d.heads.n:=by simp[PlanD.p,HL.out.hs.1]
     have f4:x.head.toNat<d.heads.n:=by omega
     obtain⟨hg,i8,hd,c9,e3,b3⟩:=zu (HL.out.step (zh D.out HB.out)).hs f4;rw[Nat.mul_one]at b3;have hz:yJ (d.p.hs.getD x.head.toNat [])=0:=(zB q 0 (by decide)).2.2 _ (by show _<d.p.hs.length;omega)
     have ew:d.p.hs.getD x.head.toNat []=hd.ws:=yY e3 _;rw[ew]at hz;have e2:szP d.p x.p=xZ hd.ws:=by
      unfold szP;rw[if_neg (show¬x.p.head<0 from hh)]
      show xZ (d.p.hs.getD x.head.toNat [])=_;rw[ew]
     have j0:xZ hd.ws<=32:=by obtain⟨_,_,_,_,h⟩:=qI hz;unfold xZ;omega
     rw[c9]at z0;have c0:=b3.1.1;have f8:hg<wr.heap.size:=zog wr _ c0;have i6:x.head<(d.heads.n:Int):=by omega
     have h6:x.head<6:=by omega
     have d7:Hid (∀o o',Calls Tryz.prog 57 #[.agg #[.slice hd.w.a hd.w.n hd.w.c]] ((wr.alloc o).alloc o') fun e c4=>e=.returned (.tuple #[.int .i64 (xZ hd.ws:Int),.agg #[.int .i64 0,.int .i64 0]])/\Below ((wr.alloc o).alloc o').heap.size ((wr.alloc o).alloc o') c4):=fun o o'=>zgm _ _ _ _ _ (b3.2.step (ze (ze (zof _ _)))) hz
     have e7:Hid (∀w',Calls Tryz.prog 30 #[.int .i64 x.head] w' fun e c4=>e=.returned (.int .u64 (zv x.head))/\c4=w'):=fun w'=>zbs x.head h0 h6 w'
     obtain⟨b,m⟩:∃b,b=wr.heap.size:=⟨_,rfl⟩;obtain⟨b6,hb6⟩:∃b6,b6=wr.heap.size+1:=⟨_,rfl⟩;obtain⟨W4,hW4⟩:∃W4,W4=(wr.alloc (.cells #[.int .i64 (y.st:Int),.int .u64 (y.tk:Int),.int .i64 (y.by_:Int)] 111)).alloc (.cells #[.int .i64 x.head,.int .i64 x.r.h,.int .i64 x.r.f,.slice x.cases.a x.cases.n x.cases.c,.int .i64 x.els] 60):=⟨_,rfl⟩;have d2:=hid (d7.out (.cells #[.int .i64 (y.st:Int),.int .u64 (y.tk:Int),.int .i64 (y.by_:Int)] 111) (.cells #[.int .i64 x.head,.int .i64 x.r.h,.int .i64 x.r.f,.slice x.cases.a x.cases.n x.cases.c,.int .i64 x.els] 60));rw[<-hW4]at d2;have b4:Below wr.heap.size wr W4:=by rw[hW4];exact ze (ze (zof _ _))
     have H4:Hid ((W4.cell? ⟨b,0,none⟩=some (.int .i64 (y.st:Int))/\W4.cell? ⟨b,1,none⟩=some (.int .u64 (y.tk:Int))/\W4.cell? ⟨b,2,none⟩=some (.int .i64 (y.by_:Int))/\W4.cell? ⟨b6,0,none⟩=some (.int .i64 x.head))/\(∀o,W4.frozen? ⟨b,o,none⟩=false)/\b<W4.heap.size/\b6<W4.heap.size/\b≠b6):=by
      rw[hW4,m,hb6];exact⟨⟨(zoe _ _ _ (by simp)).trans ((zod _ _ _ _ rfl).trans rfl),(zoe _ _ _ (by simp)).trans ((zod _ _ _ _ rfl).trans rfl),(zoe _ _ _ (by simp)).trans ((zod _ _ _ _ rfl).trans rfl),(zod _ _ _ _ (by simp)).trans rfl⟩,fun o=>(World.frozen?_alloc_past _ _ _ (by simp)).trans (zoB _ _ _ _ rfl),by simp;omega,by simp,by omega⟩
     have E4:=hid hW4;have E5:=hid m;have E6:=hid hb6;have g3:=hid b4;have f7:=hid e2;have h9:Hid (l.heap.size<=b):=by show l.heap.size<=b;have:=HB.out.size;omega
     have o1:=zbt y.tk (zv x.head) (xm a5.1) (xm (jz h6));have f6:=a5.2;have i5:=hid (jz h6);generalize xZ hd.ws=Z at*;clear hW4 m hb6 b4 b3 hz ew e2 e3 d7 h8 e6 eh f4;go_wp2_with fail
     rw[<-E4.out,<-E6.out,<-E5.out];refine d2.out.mono ?_;rintro e w5 ⟨rfl,m⟩;have d5:=zh g3.out m;have u0:=za H4.out.1.1 m;have u1:=za H4.out.1.2.1 m;have u2:=za H4.out.1.2.2.1 m;have u3:=za H4.out.1.2.2.2 m;have f1:=(m.frozen (p:=⟨b,1,none⟩) H4.out.2.2.1).trans (H4.out.2.1 1);have f2:=(m.frozen (p:=⟨b,2,none⟩) H4.out.2.2.1).trans (H4.out.2.1 2);have l5:b<w5.heap.size:=zom H4.out.2.2.1 m.size;have l6:b6<w5.heap.size:=zom H4.out.2.2.2.1 m.size;have g7:b≠b6:=H4.out.2.2.2.2;have e9:=hid d5;obtain⟨t0,t1,t2,t3,t4,t5,t6⟩:=kW d9.out (zh HB.out d5);rw[c9]at t0;rw[ea]at t2;have f9:s<w5.heap.size:=zog w5 _ t0;have g9:s≠b:=by have:=E5.out;omega
     clear d2 m d5 k0 k1 k2 k3 k4 q0 q1 q2 z0 z1 z2 z3 z4 z5 z6 c0 g1 d6 f8 E4 E6;go_wp2_with fail
     go_region_with (go_at_call 30;refine(e7.out _).mono ?_;rintro e wy ⟨rfl,rfl⟩)
     all_goals
      obtain⟨u,hTK⟩:∃u,u=y.tk|||zv x.head:=⟨_,rfl⟩
      obtain⟨t,hBY⟩:∃t,t=y.by_+Z:=⟨_,rfl⟩;have a9:Hid (Wk.succW (yj d.p q) (jC d.p) y=(xD d.states.n (ye x.p)).map (fun j=>(⟨j,u,t⟩:Wk.Way))):=by
       show _=_;rw[zhm (EN.out) q C hx,hTK,hBY,f7.out]
      have a1:Hid (i<2^(d.states.n+1)):=by have h1:=Y.out.len;have h2:(yj d.p q).n=d.states.n:=EN.out;show i<_;rw[h2]at h1;omega
      obtain⟨U,hW8⟩:∃U,U=(((w5.setCell ⟨b,1,none⟩ (.int .u64 ((y.tk|||zv x.head:Nat):Int))).setCell ⟨b,2,none⟩ (.int .i64 ((y.by_:Int)+(Z:Int)))).alloc (.cells #[.int .i64 0,.int .i64 0] 34)).drew:=⟨_,rfl⟩
      have kb:But b w5 ((w5.setCell ⟨b,1,none⟩ (.int .u64 ((y.tk|||zv x.head:Nat):Int))).setCell ⟨b,2,none⟩ (.int .i64 ((y.by_:Int)+(Z:Int)))):=set_but.trans set_but
      have k8:Below ((w5.setCell ⟨b,1,none⟩ (.int .u64 ((y.tk|||zv x.head:Nat):Int))).setCell ⟨b,2,none⟩ (.int .i64 ((y.by_:Int)+(Z:Int)))).heap.size ((w5.setCell ⟨b,1,none⟩ (.int .u64 ((y.tk|||zv x.head:Nat):Int))).setCell ⟨b,2,none⟩ (.int .i64 ((y.by_:Int)+(Z:Int)))) U:=by rw[hW8];exact(ze (zof _ _)).drew
      have b2:N≠b:=by have:=d4.out;have:=E5.out;omega
      have V:Hid (Below l.heap.size l U):=zh ((zh HB.out e9.out).trans (kb.low.mono h9.out)) k8;have a0:Hid (OwnW l.heap.size (some ⟨N,0,none⟩) lc L U):=by
       have h1:=HO.out.step e9.out;unfold OwnW at h1;have h2:=ownsRow_setCell_other h1 (a:=⟨b,1,none⟩) (by simp[Value.ownBlock];exact b2) (.int .u64 ((y.tk|||zv x.head:Nat):Int))
       have h3:=ownsRow_setCell_other h2 (a:=⟨b,2,none⟩) (by simp[Value.ownBlock];exact b2) (.int .i64 ((y.by_:Int)+(Z:Int)))
       exact OwnW.step h3 k8
      have P:Hid (U.cell? ⟨b,1,none⟩=some (.int .u64 (u:Int))/\U.cell? ⟨b,2,none⟩=some (.int .i64 (t:Int))):=by
       rw[hTK,hBY];exact⟨za (zp (zot _ _ _ u1) (by omega)) k8,za (by have:=zot (w5.setCell ⟨b,1,none⟩ (.int .u64 ((y.tk|||zv x.head:Nat):Int))) ⟨b,2,none⟩ (.int .i64 ((y.by_:Int)+(Z:Int))) (zp u2 (by omega));rw[show(((y.by_+Z:Nat):Int))=(y.by_:Int)+(Z:Int)by omega];exact this) k8⟩
      have b0:Hid (N<U.heap.size):=(a0.out.lt N rfl).2;have b8:=hid b2;have E8:=hid hW8;have G:=hid (zdL (HL.out.step (zh D.out V.out)) C e0.out d1.out a4.out);unfold PlanD.v at G;rw[ea,c9]at G;clear hW8 hTK hBY kb k8 Y HO HB a5 c6 e7;go_wp2_with fail
      rw[<-E8.out];clear E8 u0 u1 u2 u3 f1 f2 l5 l6 g7 t0 t1 t2 t3 t4 t5 t6 f9 g9 o1 f6 b2;refine G.out.mono ?_;rintro e w9 ⟨ka,kc,rfl,T,J,B⟩;have c3:=hid (zh V.out B);have b9:=hid (a0.out.step B);obtain⟨M,hM⟩:∃M,M=xD d.states.n (ye x.p):=⟨_,rfl⟩;rw[<-hM]at T ⊢;have HM:=hid hM;have HV:=hid (And.intro (za P.out.1 B) (za P.out.2 B));have H9:=hid T;have c5:Hid (0<M.length->∀g o qq,ka=some ⟨g,o,qq⟩->N≠g):=fun _ g o qq e h=>by have:=J g o qq e;have:=b0.out;omega
      have a7:Hid (N≠b):=b8.out;have a8:Hid (M.length<=9):=by
       show M.length<=9;rw[HM.out];exact zak (jJ _ _) fun j hj=>by obtain⟨_,_,_,h⟩:=mem_leadR.1 hj;have:=a4.out;omega
      clear G T J B hM V a0 P;go_wp2;go_loopw [10,3] (fun W q3 A=>∃(k:Nat) (R:Nat) (gc:Nat),k<=M.length/\W=.int .i64 k/\q3=.slice (some ⟨R,0,none⟩) (L.length+k) gc/\Hid (OwnW l.heap.size (some ⟨R,0,none⟩) gc (L++(M.take k).map (fun j=>(⟨j,u,t⟩:Wk.Way))) A)/\Hid (A.cell? ⟨b,1,none⟩=some (.int .u64 (u:Int))/\A.cell? ⟨b,2,none⟩=some (.int .i64 (t:Int)))/\Hid (Has .i64 A ka M.length (M.map (fun j:Nat=>(j:Int))))/\Hid (R≠b)/\Hid (0<M.length->∀g o qq,ka=some ⟨g,o,qq⟩->R≠g)/\Hid (Below l.heap.size l A)) (fun W _ _=>M.length-(intOf W).toNat)
      case atStart=>exact⟨0,N,lc,zon _,rfl,rfl,by show OwnW _ _ _ (L++[]) _;rw[List.append_nil];exact b9.out,HV,H9,a7,c5,c3⟩
      case round=>
       obtain⟨k,R,gc,hk,rfl,rfl,E,F,H,O,Q,X⟩:=hrel;by_cases a2:k<M.length
       ·have c8:(k:Int)<(M.length:Int):=by omega
        obtain⟨mb,mo,c1,d3,a6⟩:=H.out.some (by omega)
        obtain rfl:ka=some ⟨mb,mo,none⟩:=c1;have g4:=a8.out;have hm:=a6 k a2;obtain⟨j,hj⟩:∃j,M[k]?=some j:=⟨M[k],zoh a2⟩;have a3:(M.map (fun j:Nat=>(j:Int))).getD k 0=(j:Int):=by rw[zoi,zoy,hj];rfl
        rw[a3]at hm;obtain⟨n1,n2⟩:=F.out;obtain⟨g6,I,w6,S,NO,NB,NF,NG⟩:=zdN E.out H.out F.out O.out Q.out X.out (j:=j) (K:=L.length+k) (by simp;omega) (by have:=d0.out;have:=a8.out;omega)
        have ND:Hid (L++(M.take (k+1)).map (fun j=>(⟨j,u,t⟩:Wk.Way))=L++(M.take k).map (fun j=>(⟨j,u,t⟩:Wk.Way))++[⟨j,u,t⟩]):=by
         show _=_;rw[zoI,hj];simp
        obtain⟨NH,NV,NW⟩:=NF;have RO:Hid (OwnW l.heap.size (some ⟨g6,0,none⟩) I (L++(M.take (k+1)).map (fun j=>(⟨j,u,t⟩:Wk.Way))) w6):=by show OwnW _ _ _ _ _;rw[ND.out];exact NO
        have RV:=hid NV;have RH:=hid NH;have RB:=hid NB;have RG:=hid NG.1;have RF:=hid NG.2;clear hj a3 a6 d3 NO NB NH NV NW NG ND E F H O Q X;go_wp2_with fail
        go_region_law (first
         |(refine zac rfl _ _ rfl (by simp[Act.eval]) (by simp[Act.eval]) S ?_))
        all_goals
         go_wp2;go_roundw
         case rel=>exact⟨k+1,g6,I,by omega,by go_num,by rw[Nat.add_assoc],RO,RV,RH,RG,RF,RB⟩
         case measure=>simp[intOf];omega
       ·have ek:k=M.length:=by omega
        have c8:¬(k:Int)<(M.length:Int):=by omega
        have RO:Hid (OwnW l.heap.size (some ⟨R,0,none⟩) gc (L++Wk.succW (yj d.p q) (jC d.p) y) wr):=by
         have h:=E.out;have e:Wk.succW (yj d.p q) (jC d.p) y=(M.take k).map (fun j=>(⟨j,u,t⟩:Wk.Way)):=by
          rw[ek,List.take_length,a9.out,HM.out]
         show OwnW _ _ _ _ _;rw[e];exact h
        have RL:Hid ((L++Wk.succW (yj d.p q) (jC d.p) y).length=L.length+k):=by
         show _=_;have e:Wk.succW (yj d.p q) (jC d.p) y=M.map (fun j=>(⟨j,u,t⟩:Wk.Way)):=by rw[a9.out,HM.out]
         rw[e,zor,zoE,ek]
        clear E F H O Q ek;go_wp2;go_roundw
        case rel=>exact⟨i+1,L++Wk.succW (yj d.p q) (jC d.p) y,R,gc,by rw[RL.out];omega,by go_num,by rw[RL.out],b1,RO,X⟩
        case measure=>have:=a1.out;simp[intOf];omega
  ·have ei:i=L.length:=by omega
   have h5:¬(i:Int)<(L.length:Int):=by omega
   have HE:Hid (zfx d.p q w (.returned (.slice (some ⟨N,0,none⟩) L.length lc)) wr):=by
    refine⟨_,lc,L,rfl,Y.out.done ei,fun y hy=>Y.out.st y hy,Y.out.len,?_,zh D.out HB.out⟩
    have h:=HO.out;unfold OwnW at h ⊢;exact⟨h.1,by
     rcases h.2 with h2|⟨g2,c2,g5,e2,g8,r⟩
     ·exact .inl h2
     ·exact .inr ⟨g2,c2,g5,e2,zoz D.out.size g8,r⟩⟩
   clear Y HO HB ei;go_wp2;go_ret;exact HE.out
end Go.Proofs.YtdajaaondlekfaaGreat
