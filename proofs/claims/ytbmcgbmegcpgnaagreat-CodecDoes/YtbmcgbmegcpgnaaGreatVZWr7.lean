import Derived.Test.YtbmcgbmegcpgnaaGreatVZWr6
set_option maxHeartbeats 8000000
set_option maxRecDepth 20000
set_option linter.unusedSimpArgs false
namespace Go.Proofs.YtbmcgbmegcpgnaaGreat
open Go.RowKit
def zpe(x:CaseD):List Int:=y8 x.value.toNat++(y8 x.mask.toNat++zk x.to)
def kg(x:StateD):List Int:=(zk x.head++zk (x.cases.n:Int))++((if x.cases.n=0 then[]else zoZ x.r)++(x.cs.flatMap zpe++zk x.els))
theorem zt4(k:World)(p:Nat)(bs:List Int)(x:StateD)(w:World)(h:Wr k.heap.size p bs w)(a5:Below k.heap.size k w)(hx:wfI x.head/\wfI x.r.h/\wfI x.r.f/\wfI x.els)(hr:QRow 3 CaseD.lie k x.cases x.cs)(hn:x.cases.n<=100000)(hl:(bs++kg x).length<=9000000):
 Calls Tryz.prog 58 #[.pointer (some ⟨p,0,none⟩),.agg #[.int .i64 x.head,.int .i64 x.r.h,.int .i64 x.r.f,.slice x.cases.a x.cases.n x.cases.c,.int .i64 x.els]] w (km k.heap.size p (bs++kg x) w):=by
 obtain⟨l,esa⟩:∃l,x.cases.a=l:=⟨_,rfl⟩;rw[esa];have c3:=hid esa;have F:Below w.heap.size w (w.alloc (.cells #[.int .i64 x.head,.int .i64 x.r.h,.int .i64 x.r.f,.slice l x.cases.n x.cases.c,.int .i64 x.els] 51)):=ze (zof _ _);have H0:=hid (h.step F);have B0:=hid (F.mono h.bl);have F0:=hid (Fram.below F:Fram p w (w.alloc (.cells #[.int .i64 x.head,.int .i64 x.r.h,.int .i64 x.r.f,.slice l x.cases.n x.cases.c,.int .i64 x.els] 51)));have a7:=hid (zpw w #[.int .i64 x.head,.int .i64 x.r.h,.int .i64 x.r.f,.slice l x.cases.n x.cases.c,.int .i64 x.els] 51);have P:w.heap.size≠p:=by have:=h.pl;omega
 have E:=hid hl;have HW:=hid a5;have o:=hid P;have s:=hid hx;have V:=hid hr;have a8:Hid (wfI (x.cases.n:Int)):=zj0 _ (by omega)
 clear h hl F a5 P hx hr esa;by_cases kz:x.cases.n=0
 ·have ez:¬(0:Int)<(x.cases.n:Int):=by omega
  have es:kg x=(zk x.head++zk (x.cases.n:Int))++([]++(x.cs.flatMap zpe++zk x.els)):=by unfold kg;rw[if_pos kz]
  rw[es]at E ⊢;clear es kz;obtain⟨Q,EQ⟩:∃Q,Hid (Q=bs++((zk x.head++zk (x.cases.n:Int)))):=⟨_,rfl⟩;have K:Hid ((Q++(x.cs.flatMap zpe++zk x.els)).length<=9000000):=by
   show _<=_;rw[EQ.out];have:=E.out;simp only[List.length_append,List.length_nil]at this ⊢;omega
  have A:Hid (bs++((zk x.head++zk (x.cases.n:Int))++([]++(x.cs.flatMap zpe++zk x.els)))=Q++(x.cs.flatMap zpe++zk x.els)):=by
   show _=_;rw[EQ.out];simp only[List.append_assoc,List.nil_append]
  rw[A.out];have u:=hid (zp4 k.heap.size p (w.heap.size+1) _ x.head (x.cases.n:Int) (w.alloc (.cells #[.int .i64 x.head,.int .i64 x.r.h,.int .i64 x.r.f,.slice l x.cases.n x.cases.c,.int .i64 x.els] 51)) (by simp) s.out.1 a8.out H0.out (by have:=E.out;simp only[List.length_append]at this ⊢;omega))
  go_enter Tryz.func58,Tryz.ntmps58
  go_wp2_with fail
  refine u.out.mono ?_;rintro e w1 ⟨rfl,d,j,b⟩;replace j:=(((ze (zof _ _)).mono H0.out.bl:Below _ (w.alloc (.cells #[.int .i64 x.head,.int .i64 x.r.h,.int .i64 x.r.f,.slice l x.cases.n x.cases.c,.int .i64 x.els] 51)) ((w.alloc (.cells #[.int .i64 x.head,.int .i64 x.r.h,.int .i64 x.r.f,.slice l x.cases.n x.cases.c,.int .i64 x.els] 51)).alloc (.cells #[.int .i64 x.head,.int .i64 (x.cases.n:Int)] 3)))).trans j
  replace b:=(Fram.below (ze (zof _ _)):Fram p (w.alloc (.cells #[.int .i64 x.head,.int .i64 x.r.h,.int .i64 x.r.f,.slice l x.cases.n x.cases.c,.int .i64 x.els] 51)) ((w.alloc (.cells #[.int .i64 x.head,.int .i64 x.r.h,.int .i64 x.r.f,.slice l x.cases.n x.cases.c,.int .i64 x.els] 51)).alloc (.cells #[.int .i64 x.head,.int .i64 (x.cases.n:Int)] 3))).trans b
  have B1:=hid (B0.out.trans j);have F1:=hid (F0.out.trans b);have H1:=hid d;have ha:=b.2 _ _ _ _ o.out (by decide) a7.out
  have B:=hid ha;have I:=zd ha 0;have H:=zd ha 1;have J:=zd ha 2;have G:=zd ha 3;have C:=zd ha 4;simp only[List.getElem?_toArray,List.getElem?_cons_zero,List.getElem?_cons_succ]at I H J G C;clear d j b ha u;go_wp2;have HQ:Hid (Wr k.heap.size p (bs++((zk x.head++zk (x.cases.n:Int)))) w1):=by
   have d:=H1.out;have hh:Wr k.heap.size p (bs++((zk x.head++zk (x.cases.n:Int)))) w1:=by simpa only[List.append_assoc]using d
   exact hh
  rw[<-EQ.out]at HQ;clear EQ E A H1;go_loopw [25,5] (fun q _ wr=>∃i:Nat,i<=x.cases.n/\q=.int .i64 i/\Hid (Wr k.heap.size p (Q++(x.cs.take i).flatMap zpe) wr)/\Hid (Below k.heap.size w wr)/\Hid (Fram p w wr)/\Hid (wr.heap[w.heap.size]?=some (.cells #[.int .i64 x.head,.int .i64 x.r.h,.int .i64 x.r.f,.slice l x.cases.n x.cases.c,.int .i64 x.els] 51 (0,0)))) (fun q _ _=>x.cases.n-(intOf q).toNat)
  case atStart=>exact⟨0,zon _,rfl,by simpa using HQ,B1,F1,B⟩
  case round=>
   obtain⟨i,hi,rfl,L,D,R,S⟩:=hrel;by_cases a0:i<x.cases.n
   ·exfalso;omega
   ·have a4:¬(i:Int)<(x.cases.n:Int):=by omega
    have W2:Hid (Wr k.heap.size p (Q++x.cs.flatMap zpe) wr):=by
     show Wr _ _ _ _;have:=L.out;rw[List.take_of_length_le (by rw[V.out.1];omega)]at this;exact this
    have ha:=S.out;have W:=zd ha 4;simp only[List.getElem?_toArray,List.getElem?_cons_zero,List.getElem?_cons_succ]at W;have O:=hid (kn k.heap.size p _ x.els wr s.out.2.2.2 W2.out (by have:=K.out;simp only[List.length_append]at this ⊢;omega))
    clear ha L S;go_wp2_with fail
    refine O.out.mono ?_;rintro e v1 ⟨rfl,d,j,b⟩;rw[List.append_assoc]at d;have HE:Hid (km k.heap.size p (Q++(x.cs.flatMap zpe++zk x.els)) w (.returned (.tuple #[])) v1):=⟨rfl,d,D.out.trans j,R.out.trans b⟩;clear d j b O D R;go_wp2;go_end0
    exact HE.out
 ·have ez:(0:Int)<(x.cases.n:Int):=by omega
  have es:kg x=(zk x.head++zk (x.cases.n:Int))++(zoZ x.r++(x.cs.flatMap zpe++zk x.els)):=by unfold kg;rw[if_neg kz]
  rw[es]at E ⊢;clear es kz;obtain⟨Q,EQ⟩:∃Q,Hid (Q=bs++((zk x.head++zk (x.cases.n:Int))++zoZ x.r)):=⟨_,rfl⟩;have K:Hid ((Q++(x.cs.flatMap zpe++zk x.els)).length<=9000000):=by
   show _<=_;rw[EQ.out];have:=E.out;simp only[List.length_append]at this ⊢;omega
  have A:Hid (bs++((zk x.head++zk (x.cases.n:Int))++(zoZ x.r++(x.cs.flatMap zpe++zk x.els)))=Q++(x.cs.flatMap zpe++zk x.els)):=by
   show _=_;rw[EQ.out];simp only[List.append_assoc]
  rw[A.out];have u:=hid (zp4 k.heap.size p (w.heap.size+1) _ x.head (x.cases.n:Int) (w.alloc (.cells #[.int .i64 x.head,.int .i64 x.r.h,.int .i64 x.r.f,.slice l x.cases.n x.cases.c,.int .i64 x.els] 51)) (by simp) s.out.1 a8.out H0.out (by have:=E.out;simp only[List.length_append]at this ⊢;omega))
  go_enter Tryz.func58,Tryz.ntmps58
  go_wp2_with fail
  refine u.out.mono ?_;rintro e w1 ⟨rfl,d,j,b⟩;replace j:=(((ze (zof _ _)).mono H0.out.bl:Below _ (w.alloc (.cells #[.int .i64 x.head,.int .i64 x.r.h,.int .i64 x.r.f,.slice l x.cases.n x.cases.c,.int .i64 x.els] 51)) ((w.alloc (.cells #[.int .i64 x.head,.int .i64 x.r.h,.int .i64 x.r.f,.slice l x.cases.n x.cases.c,.int .i64 x.els] 51)).alloc (.cells #[.int .i64 x.head,.int .i64 (x.cases.n:Int)] 3)))).trans j
  replace b:=(Fram.below (ze (zof _ _)):Fram p (w.alloc (.cells #[.int .i64 x.head,.int .i64 x.r.h,.int .i64 x.r.f,.slice l x.cases.n x.cases.c,.int .i64 x.els] 51)) ((w.alloc (.cells #[.int .i64 x.head,.int .i64 x.r.h,.int .i64 x.r.f,.slice l x.cases.n x.cases.c,.int .i64 x.els] 51)).alloc (.cells #[.int .i64 x.head,.int .i64 (x.cases.n:Int)] 3))).trans b
  have B1:=hid (B0.out.trans j);have F1:=hid (F0.out.trans b);have H1:=hid d;have ha:=b.2 _ _ _ _ o.out (by decide) a7.out
  have B:=hid ha;have I:=zd ha 0;have H:=zd ha 1;have J:=zd ha 2;have G:=zd ha 3;have C:=zd ha 4;simp only[List.getElem?_toArray,List.getElem?_cons_zero,List.getElem?_cons_succ]at I H J G C;clear d j b ha u;have a3:=hid (zqi k.heap.size p _ x.r w1 ⟨s.out.2.1,s.out.2.2.1⟩ H1.out (by have:=E.out;simp only[List.length_append]at this ⊢;omega))
  go_wp2_with fail
  refine a3.out.mono ?_;rintro e w2 ⟨rfl,d,j,b⟩;have B2:=hid (B1.out.trans j);have F2:=hid (F1.out.trans b);have H2:=hid d;have ha:=b.2 _ _ _ _ o.out (by decide) B.out
  have c4:=hid ha;have b3:=zd ha 0;have a9:=zd ha 1;have b4:=zd ha 2;have c5:=zd ha 3;have b8:=zd ha 4;simp only[List.getElem?_toArray,List.getElem?_cons_zero,List.getElem?_cons_succ]at b3 a9 b4 c5 b8;clear d j b ha a3 I H J G C;go_wp2;have HQ:Hid (Wr k.heap.size p (bs++((zk x.head++zk (x.cases.n:Int))++zoZ x.r)) w2):=by
   have d:=H2.out;have hh:Wr k.heap.size p (bs++((zk x.head++zk (x.cases.n:Int))++zoZ x.r)) w2:=by simpa only[List.append_assoc]using d
   exact hh
  rw[<-EQ.out]at HQ;clear EQ E A H2;go_loopw [25,5] (fun q _ wr=>∃i:Nat,i<=x.cases.n/\q=.int .i64 i/\Hid (Wr k.heap.size p (Q++(x.cs.take i).flatMap zpe) wr)/\Hid (Below k.heap.size w wr)/\Hid (Fram p w wr)/\Hid (wr.heap[w.heap.size]?=some (.cells #[.int .i64 x.head,.int .i64 x.r.h,.int .i64 x.r.f,.slice l x.cases.n x.cases.c,.int .i64 x.els] 51 (0,0)))) (fun q _ _=>x.cases.n-(intOf q).toNat)
  case atStart=>exact⟨0,zon _,rfl,by simpa using HQ,B2,F2,c4⟩
  case round=>
   obtain⟨i,hi,rfl,L,D,R,S⟩:=hrel;by_cases a0:i<x.cases.n
   ·have a4:(i:Int)<(x.cases.n:Int):=by omega
    obtain⟨g,off,y,ea,hy,hp⟩:=zu (V.out.step CaseD.keeps (HW.out.trans D.out)) a0;obtain rfl:l=some ⟨g,off,none⟩:=by rw[<-c3.out];exact ea
    have HT:=hid (qz (f:=zpe) hy);have U:=zpD zpe x.cs (i+1);obtain⟨v,m,t⟩:=y;obtain⟨⟨c0,u0⟩,⟨c1,u1⟩,⟨c2,u2⟩⟩:=hp;have b0:=bounds_u64 u0;have b1:=bounds_u64 u1;obtain⟨N,rfl⟩:∃N:Nat,v=N:=⟨v.toNat,by simp only at b0;omega⟩
    obtain⟨M,rfl⟩:∃M:Nat,m=M:=⟨m.toNat,by simp only at b1;omega⟩
    have hN:N<18446744073709551616:=by simp only at b0;omega
    have hM:M<18446744073709551616:=by simp only at b1;omega
    have U2:=hid u2;simp only at c0 c1 c2;have ec:zpe ⟨(N:Int),(M:Int),t⟩=y8 N++(y8 M++zk t):=by unfold zpe;simp only[zov]
    rw[ec]at HT;have T:Hid ((Q++(x.cs.take i).flatMap zpe++(y8 N++(y8 M++zk t))).length<=9000000):=by
     show _<=_;have:=K.out;rw[HT.out]at U;simp only[List.length_append]at this U ⊢;omega
    have BX:Hid (Below wr.heap.size wr (wr.alloc (.cells #[.int .u64 (N:Int),.int .u64 (M:Int),.int .i64 t] 98))):=ze (zof _ _);have b2:=hid (HW.out.trans D.out).size;have c7:=hid (zpw wr #[.int .u64 (N:Int),.int .u64 (M:Int),.int .i64 t] 98);have Z:Hid (wr.heap.size≠p):=by show _≠_;have:=L.out.pl;omega
    have O:=hid (zp9 k.heap.size p _ N _ hN (L.out.step BX.out) (by have:=T.out;simp only[List.length_append]at this ⊢;omega))
    clear ea hy U u0 u1 u2 b0 b1 ec;go_wp2_with fail
    refine O.out.mono ?_;rintro e v1 ⟨rfl,d,j,b⟩;have ha:=b.2 _ _ _ _ Z.out (by decide) c7.out
    have W:=zd ha 0;have d1:=zd ha 1;have d2:=zd ha 2;simp only[List.getElem?_toArray,List.getElem?_cons_zero,List.getElem?_cons_succ]at W d1 d2;have a1:=hid (zp9 k.heap.size p _ M v1 hM d (by have:=T.out;simp only[List.length_append]at this ⊢;omega))
    have B:=hid ha;have c8:=hid (D.out.trans ((BX.out.mono b2.out).trans j));have b6:=hid ((R.out.trans (Fram.below BX.out)).trans b);have c6:=hid (((Fram.below BX.out).trans b).2 _ _ _ _ o.out (by decide) S.out)
    clear d j b ha O c0 c1 c2;go_wp2_with fail
    refine a1.out.mono ?_;rintro e v2 ⟨rfl,d,j,b⟩;have ha:=b.2 _ _ _ _ Z.out (by decide) B.out
    have a2:=zd ha 0;have X:=zd ha 1;have Y:=zd ha 2;simp only[List.getElem?_toArray,List.getElem?_cons_zero,List.getElem?_cons_succ]at a2 X Y;have a6:=hid (kn k.heap.size p _ t v2 U2.out d (by have:=T.out;simp only[List.length_append]at this ⊢;omega))
    have b9:=hid (c8.out.trans j);have b5:=hid (b6.out.trans b);have b7:=hid (b.2 _ _ _ _ o.out (by decide) c6.out)
    clear d j b ha a1 W d1 d2;go_wp2_with fail
    refine a6.out.mono ?_;rintro e v3 ⟨rfl,d,j,b⟩;have R1:Hid (Wr k.heap.size p (Q++(x.cs.take (i+1)).flatMap zpe) v3):=by
     show Wr _ _ _ _;rw[HT.out];simpa only[List.append_assoc]using d
    have R2:=hid (b9.out.trans j);have R3:=hid (b5.out.trans b);have R4:=hid (b.2 _ _ _ _ o.out (by decide) b7.out)
    clear d j b a6 a2 X Y L D R S HT;go_wp2;go_roundw
    case rel=>exact⟨i+1,by omega,by go_num,R1,R2,R3,R4⟩
    case measure=>simp[intOf];omega
   ·have a4:¬(i:Int)<(x.cases.n:Int):=by omega
    have W2:Hid (Wr k.heap.size p (Q++x.cs.flatMap zpe) wr):=by
     show Wr _ _ _ _;have:=L.out;rw[List.take_of_length_le (by rw[V.out.1];omega)]at this;exact this
    have ha:=S.out;have W:=zd ha 4;simp only[List.getElem?_toArray,List.getElem?_cons_zero,List.getElem?_cons_succ]at W;have O:=hid (kn k.heap.size p _ x.els wr s.out.2.2.2 W2.out (by have:=K.out;simp only[List.length_append]at this ⊢;omega))
    clear ha L S;go_wp2_with fail
    refine O.out.mono ?_;rintro e v1 ⟨rfl,d,j,b⟩;rw[List.append_assoc]at d;have HE:Hid (km k.heap.size p (Q++(x.cs.flatMap zpe++zk x.els)) w (.returned (.tuple #[])) v1):=⟨rfl,d,D.out.trans j,R.out.trans b⟩;clear d j b O D R;go_wp2;go_end0
    exact HE.out
end Go.Proofs.YtbmcgbmegcpgnaaGreat
