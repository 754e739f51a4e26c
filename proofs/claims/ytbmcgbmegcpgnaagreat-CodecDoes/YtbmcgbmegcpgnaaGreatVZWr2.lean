import Derived.Test.YtbmcgbmegcpgnaaGreatVZWr1
import Derived.Test.YtbmcgbmegcpgnaaGreatG6
set_option maxHeartbeats 4000000
set_option maxRecDepth 20000
set_option linter.unusedSimpArgs false
namespace Go.Proofs.YtbmcgbmegcpgnaaGreat
open Go.RowKit
theorem zs4{w:World}{g:Nat}{ns:List Int}{T:TypeId}{f:Nat × Nat}(h:w.heap[g]?=some (.cells (ns.map (Value.int .i64)).toArray T f)){k:Nat}{x:Int}(a:ns[k]?=some x):w.cell? ⟨g,k,none⟩=some (.int .i64 x):=by
 simp[World.cell?,h,a]
theorem qz{α :Type}{f: α->List Int}{S:List α}{k:Nat}{x: α}(h:S[k]?=some x):(S.take (k+1)).flatMap f=(S.take k).flatMap f++f x:=by
 rw[zoI,h,List.flatMap_append];simp
theorem zpD{α :Type}(f: α->List Int)(S:List α)(k:Nat):((S.take k).flatMap f).length<=(S.flatMap f).length:=by
 have:=congrArg List.length (congrArg (List.flatMap f) (List.take_append_drop k S));rw[List.flatMap_append,List.length_append]at this;omega
theorem zr2(B p g c:Nat)(bs ns:List Int)(w:World)(h:Wr B p bs w)(G:w.heap[g]?=some (.cells (ns.map (Value.int .i64)).toArray 3 (0,0)))(y:g≠p)(d:∀n∈ns,wfI n)(Q:ns.length<=100000)(F:(bs++ns.flatMap zk).length<=9000000):
 Calls Tryz.prog 102 #[.pointer (some ⟨p,0,none⟩),.slice (some ⟨g,0,none⟩) ns.length c] w (km B p (bs++ns.flatMap zk) w):=by
 have H:=hid h;have L:=hid F;have J:=hid G;have m:=hid d;clear h F G d;go_enter Tryz.func102,Tryz.ntmps102
 go_wp2;go_loopw [8,5] (fun q _ wr=>∃k:Nat,k<=ns.length/\q=.int .i64 k/\Hid (Wr B p (bs++(ns.take k).flatMap zk) wr)/\Hid (Below B w wr)/\Hid (Fram p w wr)) (fun q _ _=>ns.length-(intOf q).toNat)
 case atStart=>exact⟨0,zon _,rfl,by simpa using H,zof _ _,Fram.refl _ _⟩
 case round=>
  obtain⟨k,P,rfl,j,l,a⟩:=hrel;by_cases i:k<ns.length
  ·have s:(k:Int)<(ns.length:Int):=by omega
   have t:=zoh i;have b:=m.out _ (List.getElem_mem i);have u:=hid (qz (f:=zk) t);have r:=zpD zk ns (k+1);have o:Hid ((bs++(ns.take k).flatMap zk++zk ns[k]).length<=9000000):=by
    show _<=_;rw[List.append_assoc,<-u.out,List.length_append];have:=L.out;rw[List.length_append]at this;omega
   have c0:=zs4 (a.out.2 g _ _ _ y (by decide) J.out) t
   generalize ns[k]=x at*;have E:=hid (kn B p _ x wr b j.out o.out);clear t b r;go_wp2_with fail
   refine E.out.mono ?_;rintro e O ⟨rfl,A,C,D⟩;rw[List.append_assoc,<-u.out]at A;have K:=hid A;have M:=hid (l.out.trans C);have N:=hid (a.out.trans D);clear A C D j l a E u;go_wp2;go_roundw
   case rel=>exact⟨k+1,by omega,by go_num,K,M,N⟩
   case measure=>simp[intOf];omega
  ·have s:¬(k:Int)<(ns.length:Int):=by omega
   have I:Hid (km B p (bs++ns.flatMap zk) w (.returned (.tuple #[])) wr):=⟨rfl,by have:=j.out;rw[List.take_of_length_le (by omega)]at this;exact this,l.out,a.out⟩
   clear j l a;go_wp2;go_end0
   exact I.out
theorem zrl(b:World)(p N:Nat)(bs:List Int)(s:QSl)(S:List RefD)(d:RefD->List Int)(w:World)(Z:N=103)(h:Wr b.heap.size p bs w)(C:Below b.heap.size b w)(R:QRow 2 RefD.lie b s S)(hn:s.n<=100000)(O:(bs++(zk s.n++S.flatMap d)).length<=9000000)
 (B:∀x∈S,∀cs w',Wr b.heap.size p cs w'->Below b.heap.size b w'->(cs++d x).length<=9000000->Calls Tryz.prog N #[.pointer (some ⟨p,0,none⟩),.agg #[.int .i64 x.h,.int .i64 x.f]] w' (km b.heap.size p (cs++d x) w')):
 Calls Tryz.prog 106 #[.pointer (some ⟨p,0,none⟩),.slice s.a s.n s.c,.func (.func N) #[.pointer (some ⟨p,0,none⟩)] #[]] w (km b.heap.size p (bs++(zk s.n++S.flatMap d)) w):=by
 subst Z;have t:wfI (s.n:Int):=zj0 _ (by omega)
 have o:=hid (kn b.heap.size p bs (s.n:Int) w t h (by rw[<-List.append_assoc,List.length_append]at O;omega))
 have HL:=hid O;have X:=hid R;have J:=hid B;have l:=hid C;obtain⟨F,esa⟩:∃F,s.a=F:=⟨_,rfl⟩;rw[esa];have L:=hid esa;clear h O R B C esa t;go_enter Tryz.func106,Tryz.ntmps106
 go_wp2_with fail
 refine o.out.mono ?_;rintro e w1 ⟨rfl,m,y,A⟩;have U:=hid m;have T:=hid y;have W:=hid A;clear m y A o;go_wp2;go_loopw [14,7] (fun q _ wr=>∃i:Nat,i<=s.n/\q=.int .i64 i/\Hid (Wr b.heap.size p (bs++(zk s.n++(S.take i).flatMap d)) wr)/\Hid (Below b.heap.size w wr)/\Hid (Fram p w wr)) (fun q _ _=>s.n-(intOf q).toNat)
 case atStart=>exact⟨0,zon _,rfl,by simpa using U,T,W⟩
 case round=>
  obtain⟨i,hi,rfl,E,k,D⟩:=hrel;clear U T W;by_cases P:i<s.n
  ·have M:(i:Int)<(s.n:Int):=by omega
   obtain⟨g,off,x,Q,I,G⟩:=zu (X.out.step kRef.keeps (l.out.trans k.out)) P;obtain rfl:F=some ⟨g,off,none⟩:=by rw[<-L.out];exact Q
   have c0:wr.cell? ⟨g,off+i*2,none⟩=some (.int .i64 x.h):=kRef.cell G 0 _ rfl;have c1:wr.cell? ⟨g,off+i*2+1,none⟩=some (.int .i64 x.f):=kRef.cell G 1 _ rfl;have K:=hid (qz (f:=d) I);have j:=zpD d S (i+1);have H:Hid ((bs++(zk s.n++(S.take i).flatMap d)++d x).length<=9000000):=by
    show _<=_;have:=HL.out;rw[K.out]at j;simp only[List.length_append]at this j ⊢;omega
   have u:Hid (Below wr.heap.size wr (wr.alloc (.cells #[.int .i64 x.h,.int .i64 x.f] 48))):=ze (zof _ _);have r:b.heap.size<=wr.heap.size:=(l.out.trans k.out).size;have V:=hid (J.out x (zol I) _ _ (E.out.step u.out) ((l.out.trans k.out).trans (u.out.mono r)) H.out);clear Q I G j;go_wp2_with fail
   refine V.out.mono ?_;rintro e w3 ⟨rfl,m,y,A⟩;rw[List.append_assoc,List.append_assoc,<-K.out]at m;have R1:=hid m;have R2:=hid (k.out.trans ((u.out.mono r).trans y));have R3:=hid ((D.out.trans (Fram.below u.out)).trans A);clear m y A E k D V K u;go_wp2;go_roundw
   case rel=>exact⟨i+1,by omega,by go_num,R1,R2,R3⟩
   case measure=>simp[intOf];omega
  ·have M:¬(i:Int)<(s.n:Int):=by omega
   have Y:Hid (km b.heap.size p (bs++(zk s.n++S.flatMap d)) w (.returned (.tuple #[])) wr):=⟨rfl,by have:=E.out;rw[List.take_of_length_le (by rw[X.out.1];omega)]at this;exact this,k.out,D.out⟩
   clear E k D;go_wp2;go_end0
   exact Y.out
theorem zrf(b:World)(p N:Nat)(bs:List Int)(s:QSl)(S:List PushD)(d:PushD->List Int)(w:World)(hN:N=144)(h:Wr b.heap.size p bs w)(E:Below b.heap.size b w)(T:QRow 4 PushD.lie b s S)(hn:s.n<=100000)(P:(bs++(zk s.n++S.flatMap d)).length<=9000000)
 (D:∀x∈S,∀cs w',Wr b.heap.size p cs w'->Below b.heap.size b w'->(cs++d x).length<=9000000->Calls Tryz.prog N #[.pointer (some ⟨p,0,none⟩),.agg #[.int .i64 x.op,.int .i64 x.r.h,.int .i64 x.r.f,.int .u64 x.n]] w' (km b.heap.size p (cs++d x) w')):
 Calls Tryz.prog 143 #[.pointer (some ⟨p,0,none⟩),.slice s.a s.n s.c,.func (.func N) #[.pointer (some ⟨p,0,none⟩)] #[]] w (km b.heap.size p (bs++(zk s.n++S.flatMap d)) w):=by
 subst hN;have y:wfI (s.n:Int):=zj0 _ (by omega)
 have t:=hid (kn b.heap.size p bs (s.n:Int) w y h (by rw[<-List.append_assoc,List.length_append]at P;omega))
 have HL:=hid P;have Y:=hid T;have K:=hid D;have l:=hid E;obtain⟨H,esa⟩:∃H,s.a=H:=⟨_,rfl⟩;rw[esa];have M:=hid esa;clear h P T D E esa y;go_enter Tryz.func143,Tryz.ntmps143
 go_wp2_with fail
 refine t.out.mono ?_;rintro e w1 ⟨rfl,m,B,C⟩;have V:=hid m;have U:=hid B;have X:=hid C;clear m B C t;go_wp2;go_loopw [14,7] (fun q _ wr=>∃i:Nat,i<=s.n/\q=.int .i64 i/\Hid (Wr b.heap.size p (bs++(zk s.n++(S.take i).flatMap d)) wr)/\Hid (Below b.heap.size w wr)/\Hid (Fram p w wr)) (fun q _ _=>s.n-(intOf q).toNat)
 case atStart=>exact⟨0,zon _,rfl,by simpa using V,U,X⟩
 case round=>
  obtain⟨i,hi,rfl,G,k,F⟩:=hrel;clear V U X;by_cases Q:i<s.n
  ·have O:(i:Int)<(s.n:Int):=by omega
   obtain⟨g,off,x,R,J,o⟩:=zu (Y.out.step kPush.keeps (l.out.trans k.out)) Q;obtain rfl:H=some ⟨g,off,none⟩:=by rw[<-M.out];exact R
   have c0:wr.cell? ⟨g,off+i*4,none⟩=some (.int .i64 x.op):=kPush.cell o 0 _ rfl;have c1:wr.cell? ⟨g,off+i*4+1,none⟩=some (.int .i64 x.r.h):=kPush.cell o 1 _ rfl;have c2:wr.cell? ⟨g,off+i*4+2,none⟩=some (.int .i64 x.r.f):=kPush.cell o 2 _ rfl;have c3:wr.cell? ⟨g,off+i*4+3,none⟩=some (.int .u64 x.n):=kPush.cell o 3 _ rfl;have L:=hid (qz (f:=d) J);have j:=zpD d S (i+1);have I:Hid ((bs++(zk s.n++(S.take i).flatMap d)++d x).length<=9000000):=by
    show _<=_;have:=HL.out;rw[L.out]at j;simp only[List.length_append]at this j ⊢;omega
   have A:Hid (Below wr.heap.size wr (wr.alloc (.cells #[.int .i64 x.op,.int .i64 x.r.h,.int .i64 x.r.f,.int .u64 x.n] 144))):=ze (zof _ _);have u:b.heap.size<=wr.heap.size:=(l.out.trans k.out).size;have W:=hid (K.out x (zol J) _ _ (G.out.step A.out) ((l.out.trans k.out).trans (A.out.mono u)) I.out);clear R J o j;go_wp2_with fail
   refine W.out.mono ?_;rintro e w3 ⟨rfl,m,B,C⟩;rw[List.append_assoc,List.append_assoc,<-L.out]at m;have R1:=hid m;have R2:=hid (k.out.trans ((A.out.mono u).trans B));have R3:=hid ((F.out.trans (Fram.below A.out)).trans C);clear m B C G k F W L A;go_wp2;go_roundw
   case rel=>exact⟨i+1,by omega,by go_num,R1,R2,R3⟩
   case measure=>simp[intOf];omega
  ·have O:¬(i:Int)<(s.n:Int):=by omega
   have Z:Hid (km b.heap.size p (bs++(zk s.n++S.flatMap d)) w (.returned (.tuple #[])) wr):=⟨rfl,by have:=G.out;rw[List.take_of_length_le (by rw[Y.out.1];omega)]at this;exact this,k.out,F.out⟩
   clear G k F;go_wp2;go_end0
   exact Z.out
theorem zrg(b:World)(p N:Nat)(bs:List Int)(s:QSl)(S:List HeadD)(d:HeadD->List Int)(w:World)(Z:N=54)(h:Wr b.heap.size p bs w)(C:Below b.heap.size b w)(R:QRow 1 HeadD.lie b s S)(hn:s.n<=100000)(M:(bs++(zk s.n++S.flatMap d)).length<=9000000)
 (B:∀x∈S,∀cs w',Wr b.heap.size p cs w'->Below b.heap.size b w'->(cs++d x).length<=9000000->Calls Tryz.prog N #[.pointer (some ⟨p,0,none⟩),.agg #[.slice x.w.a x.w.n x.w.c]] w' (km b.heap.size p (cs++d x) w')):
 Calls Tryz.prog 53 #[.pointer (some ⟨p,0,none⟩),.slice s.a s.n s.c,.func (.func N) #[.pointer (some ⟨p,0,none⟩)] #[]] w (km b.heap.size p (bs++(zk s.n++S.flatMap d)) w):=by
 subst Z;have t:wfI (s.n:Int):=zj0 _ (by omega)
 have o:=hid (kn b.heap.size p bs (s.n:Int) w t h (by rw[<-List.append_assoc,List.length_append]at M;omega))
 have HL:=hid M;have X:=hid R;have I:=hid B;have l:=hid C;obtain⟨F,esa⟩:∃F,s.a=F:=⟨_,rfl⟩;rw[esa];have K:=hid esa;clear h M R B C esa t;go_enter Tryz.func53,Tryz.ntmps53
 go_wp2_with fail
 refine o.out.mono ?_;rintro e w1 ⟨rfl,m,y,A⟩;have U:=hid m;have T:=hid y;have W:=hid A;clear m y A o;go_wp2;go_loopw [14,7] (fun q _ wr=>∃i:Nat,i<=s.n/\q=.int .i64 i/\Hid (Wr b.heap.size p (bs++(zk s.n++(S.take i).flatMap d)) wr)/\Hid (Below b.heap.size w wr)/\Hid (Fram p w wr)) (fun q _ _=>s.n-(intOf q).toNat)
 case atStart=>exact⟨0,zon _,rfl,by simpa using U,T,W⟩
 case round=>
  obtain⟨i,hi,rfl,E,k,D⟩:=hrel;clear U T W;by_cases O:i<s.n
  ·have L:(i:Int)<(s.n:Int):=by omega
   obtain⟨g,off,x,Q,H,P⟩:=zu (X.out.step kHead.keeps (l.out.trans k.out)) O;obtain rfl:F=some ⟨g,off,none⟩:=by rw[<-K.out];exact Q
   have c0:wr.cell? ⟨g,off+i,none⟩=some (.slice x.w.a x.w.n x.w.c):=by have:=kHead.cell P 0 _ rfl;rw[Nat.mul_one,Nat.add_zero]at this;exact this
   have J:=hid (qz (f:=d) H);have j:=zpD d S (i+1);have G:Hid ((bs++(zk s.n++(S.take i).flatMap d)++d x).length<=9000000):=by
    show _<=_;have:=HL.out;rw[J.out]at j;simp only[List.length_append]at this j ⊢;omega
   have u:Hid (Below wr.heap.size wr (wr.alloc (.cells #[.slice x.w.a x.w.n x.w.c] 53))):=ze (zof _ _);have r:b.heap.size<=wr.heap.size:=(l.out.trans k.out).size;have V:=hid (I.out x (zol H) _ _ (E.out.step u.out) ((l.out.trans k.out).trans (u.out.mono r)) G.out);clear Q H P j;go_wp2_with fail
   refine V.out.mono ?_;rintro e w3 ⟨rfl,m,y,A⟩;rw[List.append_assoc,List.append_assoc,<-J.out]at m;have R1:=hid m;have R2:=hid (k.out.trans ((u.out.mono r).trans y));have R3:=hid ((D.out.trans (Fram.below u.out)).trans A);clear m y A E k D V J u;go_wp2;go_roundw
   case rel=>exact⟨i+1,by omega,by go_num,R1,R2,R3⟩
   case measure=>simp[intOf];omega
  ·have L:¬(i:Int)<(s.n:Int):=by omega
   have Y:Hid (km b.heap.size p (bs++(zk s.n++S.flatMap d)) w (.returned (.tuple #[])) wr):=⟨rfl,by have:=E.out;rw[List.take_of_length_le (by rw[X.out.1];omega)]at this;exact this,k.out,D.out⟩
   clear E k D;go_wp2;go_end0
   exact Y.out
theorem zqN(b:World)(p N:Nat)(bs:List Int)(s:QSl)(S:List StateD)(d:StateD->List Int)(w:World)(hN:N=58)(h:Wr b.heap.size p bs w)(E:Below b.heap.size b w)(T:QRow 5 StateD.lie b s S)(hn:s.n<=100000)(P:(bs++(zk s.n++S.flatMap d)).length<=9000000)
 (D:∀x∈S,∀cs w',Wr b.heap.size p cs w'->Below b.heap.size b w'->(cs++d x).length<=9000000->Calls Tryz.prog N #[.pointer (some ⟨p,0,none⟩),.agg #[.int .i64 x.head,.int .i64 x.r.h,.int .i64 x.r.f,.slice x.cases.a x.cases.n x.cases.c,.int .i64 x.els]] w' (km b.heap.size p (cs++d x) w')):
 Calls Tryz.prog 57 #[.pointer (some ⟨p,0,none⟩),.slice s.a s.n s.c,.func (.func N) #[.pointer (some ⟨p,0,none⟩)] #[]] w (km b.heap.size p (bs++(zk s.n++S.flatMap d)) w):=by
 subst hN;have y:wfI (s.n:Int):=zj0 _ (by omega)
 have t:=hid (kn b.heap.size p bs (s.n:Int) w y h (by rw[<-List.append_assoc,List.length_append]at P;omega))
 have HL:=hid P;have Y:=hid T;have K:=hid D;have l:=hid E;obtain⟨H,esa⟩:∃H,s.a=H:=⟨_,rfl⟩;rw[esa];have M:=hid esa;clear h P T D E esa y;go_enter Tryz.func57,Tryz.ntmps57
 go_wp2_with fail
 refine t.out.mono ?_;rintro e w1 ⟨rfl,o,B,C⟩;have V:=hid o;have U:=hid B;have X:=hid C;clear o B C t;go_wp2;go_loopw [14,7] (fun q _ wr=>∃i:Nat,i<=s.n/\q=.int .i64 i/\Hid (Wr b.heap.size p (bs++(zk s.n++(S.take i).flatMap d)) wr)/\Hid (Below b.heap.size w wr)/\Hid (Fram p w wr)) (fun q _ _=>s.n-(intOf q).toNat)
 case atStart=>exact⟨0,zon _,rfl,by simpa using V,U,X⟩
 case round=>
  obtain⟨i,hi,rfl,G,k,F⟩:=hrel;clear V U X;by_cases Q:i<s.n
  ·have O:(i:Int)<(s.n:Int):=by omega
   obtain⟨g,off,x,R,J,m⟩:=zu (Y.out.step kState.keeps (l.out.trans k.out)) Q;obtain rfl:H=some ⟨g,off,none⟩:=by rw[<-M.out];exact R
   have c0:wr.cell? ⟨g,off+i*5,none⟩=some (.int .i64 x.head):=kState.cell m 0 _ rfl;have c1:wr.cell? ⟨g,off+i*5+1,none⟩=some (.int .i64 x.r.h):=kState.cell m 1 _ rfl;have c2:wr.cell? ⟨g,off+i*5+2,none⟩=some (.int .i64 x.r.f):=kState.cell m 2 _ rfl;have c3:wr.cell? ⟨g,off+i*5+3,none⟩=some (.slice x.cases.a x.cases.n x.cases.c):=kState.cell m 3 _ rfl;have c4:wr.cell? ⟨g,off+i*5+4,none⟩=some (.int .i64 x.els):=kState.cell m 4 _ rfl;have L:=hid (qz (f:=d) J);have j:=zpD d S (i+1);have I:Hid ((bs++(zk s.n++(S.take i).flatMap d)++d x).length<=9000000):=by
    show _<=_;have:=HL.out;rw[L.out]at j;simp only[List.length_append]at this j ⊢;omega
   have A:Hid (Below wr.heap.size wr (wr.alloc (.cells #[.int .i64 x.head,.int .i64 x.r.h,.int .i64 x.r.f,.slice x.cases.a x.cases.n x.cases.c,.int .i64 x.els] 51))):=ze (zof _ _);have u:b.heap.size<=wr.heap.size:=(l.out.trans k.out).size;have W:=hid (K.out x (zol J) _ _ (G.out.step A.out) ((l.out.trans k.out).trans (A.out.mono u)) I.out);clear R J m j;go_wp2_with fail
   refine W.out.mono ?_;rintro e w3 ⟨rfl,o,B,C⟩;rw[List.append_assoc,List.append_assoc,<-L.out]at o;have R1:=hid o;have R2:=hid (k.out.trans ((A.out.mono u).trans B));have R3:=hid ((F.out.trans (Fram.below A.out)).trans C);clear o B C G k F W L A;go_wp2;go_roundw
   case rel=>exact⟨i+1,by omega,by go_num,R1,R2,R3⟩
   case measure=>simp[intOf];omega
  ·have O:¬(i:Int)<(s.n:Int):=by omega
   have Z:Hid (km b.heap.size p (bs++(zk s.n++S.flatMap d)) w (.returned (.tuple #[])) wr):=⟨rfl,by have:=G.out;rw[List.take_of_length_le (by rw[Y.out.1];omega)]at this;exact this,k.out,F.out⟩
   clear G k F;go_wp2;go_end0
   exact Z.out
theorem zrK(b:World)(p N:Nat)(bs:List Int)(s:QSl)(S:List OpD)(d:OpD->List Int)(w:World)(hN:N=105)(h:Wr b.heap.size p bs w)(E:Below b.heap.size b w)(T:QRow 5 OpD.lie b s S)(hn:s.n<=100000)(P:(bs++(zk s.n++S.flatMap d)).length<=9000000)
 (D:∀x∈S,∀cs w',Wr b.heap.size p cs w'->Below b.heap.size b w'->(cs++d x).length<=9000000->Calls Tryz.prog N #[.pointer (some ⟨p,0,none⟩),.agg #[.int .i64 x.kind,.int .i64 x.r.h,.int .i64 x.r.f,.int .i64 x.head,.slice x.e.a x.e.n x.e.c]] w' (km b.heap.size p (cs++d x) w')):
 Calls Tryz.prog 104 #[.pointer (some ⟨p,0,none⟩),.slice s.a s.n s.c,.func (.func N) #[.pointer (some ⟨p,0,none⟩)] #[]] w (km b.heap.size p (bs++(zk s.n++S.flatMap d)) w):=by
 subst hN;have y:wfI (s.n:Int):=zj0 _ (by omega)
 have t:=hid (kn b.heap.size p bs (s.n:Int) w y h (by rw[<-List.append_assoc,List.length_append]at P;omega))
 have HL:=hid P;have Y:=hid T;have K:=hid D;have l:=hid E;obtain⟨H,esa⟩:∃H,s.a=H:=⟨_,rfl⟩;rw[esa];have M:=hid esa;clear h P T D E esa y;go_enter Tryz.func104,Tryz.ntmps104
 go_wp2_with fail
 refine t.out.mono ?_;rintro e w1 ⟨rfl,o,B,C⟩;have V:=hid o;have U:=hid B;have X:=hid C;clear o B C t;go_wp2;go_loopw [14,7] (fun q _ wr=>∃i:Nat,i<=s.n/\q=.int .i64 i/\Hid (Wr b.heap.size p (bs++(zk s.n++(S.take i).flatMap d)) wr)/\Hid (Below b.heap.size w wr)/\Hid (Fram p w wr)) (fun q _ _=>s.n-(intOf q).toNat)
 case atStart=>exact⟨0,zon _,rfl,by simpa using V,U,X⟩
 case round=>
  obtain⟨i,hi,rfl,G,k,F⟩:=hrel;clear V U X;by_cases Q:i<s.n
  ·have O:(i:Int)<(s.n:Int):=by omega
   obtain⟨g,off,x,R,J,m⟩:=zu (Y.out.step kOp.keeps (l.out.trans k.out)) Q;obtain rfl:H=some ⟨g,off,none⟩:=by rw[<-M.out];exact R
   have c0:wr.cell? ⟨g,off+i*5,none⟩=some (.int .i64 x.kind):=kOp.cell m 0 _ rfl;have c1:wr.cell? ⟨g,off+i*5+1,none⟩=some (.int .i64 x.r.h):=kOp.cell m 1 _ rfl;have c2:wr.cell? ⟨g,off+i*5+2,none⟩=some (.int .i64 x.r.f):=kOp.cell m 2 _ rfl;have c3:wr.cell? ⟨g,off+i*5+3,none⟩=some (.int .i64 x.head):=kOp.cell m 3 _ rfl;have c4:wr.cell? ⟨g,off+i*5+4,none⟩=some (.slice x.e.a x.e.n x.e.c):=kOp.cell m 4 _ rfl;have L:=hid (qz (f:=d) J);have j:=zpD d S (i+1);have I:Hid ((bs++(zk s.n++(S.take i).flatMap d)++d x).length<=9000000):=by
    show _<=_;have:=HL.out;rw[L.out]at j;simp only[List.length_append]at this j ⊢;omega
   have A:Hid (Below wr.heap.size wr (wr.alloc (.cells #[.int .i64 x.kind,.int .i64 x.r.h,.int .i64 x.r.f,.int .i64 x.head,.slice x.e.a x.e.n x.e.c] 59))):=ze (zof _ _);have u:b.heap.size<=wr.heap.size:=(l.out.trans k.out).size;have W:=hid (K.out x (zol J) _ _ (G.out.step A.out) ((l.out.trans k.out).trans (A.out.mono u)) I.out);clear R J m j;go_wp2_with fail
   refine W.out.mono ?_;rintro e w3 ⟨rfl,o,B,C⟩;rw[List.append_assoc,List.append_assoc,<-L.out]at o;have R1:=hid o;have R2:=hid (k.out.trans ((A.out.mono u).trans B));have R3:=hid ((F.out.trans (Fram.below A.out)).trans C);clear o B C G k F W L A;go_wp2;go_roundw
   case rel=>exact⟨i+1,by omega,by go_num,R1,R2,R3⟩
   case measure=>simp[intOf];omega
  ·have O:¬(i:Int)<(s.n:Int):=by omega
   have Z:Hid (km b.heap.size p (bs++(zk s.n++S.flatMap d)) w (.returned (.tuple #[])) wr):=⟨rfl,by have:=G.out;rw[List.take_of_length_le (by rw[Y.out.1];omega)]at this;exact this,k.out,F.out⟩
   clear G k F;go_wp2;go_end0
   exact Z.out
theorem zrm(b:World)(p N:Nat)(bs:List Int)(s:QSl)(S:List ActD)(d:ActD->List Int)(w:World)(Z:N=60)(h:Wr b.heap.size p bs w)(C:Below b.heap.size b w)(R:QRow 2 ActD.lie b s S)(hn:s.n<=100000)(O:(bs++(zk s.n++S.flatMap d)).length<=9000000)
 (B:∀x∈S,∀cs w',Wr b.heap.size p cs w'->Below b.heap.size b w'->(cs++d x).length<=9000000->Calls Tryz.prog N #[.pointer (some ⟨p,0,none⟩),.agg #[.slice x.w.a x.w.n x.w.c,.slice x.ops.a x.ops.n x.ops.c]] w' (km b.heap.size p (cs++d x) w')):
 Calls Tryz.prog 59 #[.pointer (some ⟨p,0,none⟩),.slice s.a s.n s.c,.func (.func N) #[.pointer (some ⟨p,0,none⟩)] #[]] w (km b.heap.size p (bs++(zk s.n++S.flatMap d)) w):=by
 subst Z;have t:wfI (s.n:Int):=zj0 _ (by omega)
 have o:=hid (kn b.heap.size p bs (s.n:Int) w t h (by rw[<-List.append_assoc,List.length_append]at O;omega))
 have HL:=hid O;have X:=hid R;have J:=hid B;have l:=hid C;obtain⟨F,esa⟩:∃F,s.a=F:=⟨_,rfl⟩;rw[esa];have L:=hid esa;clear h O R B C esa t;go_enter Tryz.func59,Tryz.ntmps59
 go_wp2_with fail
 refine o.out.mono ?_;rintro e w1 ⟨rfl,m,y,A⟩;have U:=hid m;have T:=hid y;have W:=hid A;clear m y A o;go_wp2;go_loopw [14,7] (fun q _ wr=>∃i:Nat,i<=s.n/\q=.int .i64 i/\Hid (Wr b.heap.size p (bs++(zk s.n++(S.take i).flatMap d)) wr)/\Hid (Below b.heap.size w wr)/\Hid (Fram p w wr)) (fun q _ _=>s.n-(intOf q).toNat)
 case atStart=>exact⟨0,zon _,rfl,by simpa using U,T,W⟩
 case round=>
  obtain⟨i,hi,rfl,E,k,D⟩:=hrel;clear U T W;by_cases P:i<s.n
  ·have M:(i:Int)<(s.n:Int):=by omega
   obtain⟨g,off,x,Q,I,G⟩:=zu (X.out.step kAct.keeps (l.out.trans k.out)) P;obtain rfl:F=some ⟨g,off,none⟩:=by rw[<-L.out];exact Q
   have c0:wr.cell? ⟨g,off+i*2,none⟩=some (.slice x.w.a x.w.n x.w.c):=kAct.cell G 0 _ rfl;have c1:wr.cell? ⟨g,off+i*2+1,none⟩=some (.slice x.ops.a x.ops.n x.ops.c):=kAct.cell G 1 _ rfl;have K:=hid (qz (f:=d) I);have j:=zpD d S (i+1);have H:Hid ((bs++(zk s.n++(S.take i).flatMap d)++d x).length<=9000000):=by
    show _<=_;have:=HL.out;rw[K.out]at j;simp only[List.length_append]at this j ⊢;omega
   have u:Hid (Below wr.heap.size wr (wr.alloc (.cells #[.slice x.w.a x.w.n x.w.c,.slice x.ops.a x.ops.n x.ops.c] 56))):=ze (zof _ _);have r:b.heap.size<=wr.heap.size:=(l.out.trans k.out).size;have V:=hid (J.out x (zol I) _ _ (E.out.step u.out) ((l.out.trans k.out).trans (u.out.mono r)) H.out);clear Q I G j;go_wp2_with fail
   refine V.out.mono ?_;rintro e w3 ⟨rfl,m,y,A⟩;rw[List.append_assoc,List.append_assoc,<-K.out]at m;have R1:=hid m;have R2:=hid (k.out.trans ((u.out.mono r).trans y));have R3:=hid ((D.out.trans (Fram.below u.out)).trans A);clear m y A E k D V K u;go_wp2;go_roundw
   case rel=>exact⟨i+1,by omega,by go_num,R1,R2,R3⟩
   case measure=>simp[intOf];omega
  ·have M:¬(i:Int)<(s.n:Int):=by omega
   have Y:Hid (km b.heap.size p (bs++(zk s.n++S.flatMap d)) w (.returned (.tuple #[])) wr):=⟨rfl,by have:=E.out;rw[List.take_of_length_le (by rw[X.out.1];omega)]at this;exact this,k.out,D.out⟩
   clear E k D;go_wp2;go_end0
   exact Y.out
theorem zrn(b:World)(p N:Nat)(bs:List Int)(s:QSl)(S:List TabD)(d:TabD->List Int)(w:World)(Z:N=62)(h:Wr b.heap.size p bs w)(D:Below b.heap.size b w)(R:QRow 6 TabD.lie b s S)(hn:s.n<=100000)(O:(bs++(zk s.n++S.flatMap d)).length<=9000000)
 (C:∀x∈S,∀cs w',Wr b.heap.size p cs w'->Below b.heap.size b w'->(cs++d x).length<=9000000->Calls Tryz.prog N #[.pointer (some ⟨p,0,none⟩),.agg #[.int .i64 x.kind,.slice x.keys.a x.keys.n x.keys.c,.slice x.acts.a x.acts.n x.acts.c,.int .i64 x.cap,.int .i64 x.dflt,.slice x.args.a x.args.n x.args.c]] w' (km b.heap.size p (cs++d x) w')):
 Calls Tryz.prog 61 #[.pointer (some ⟨p,0,none⟩),.slice s.a s.n s.c,.func (.func N) #[.pointer (some ⟨p,0,none⟩)] #[]] w (km b.heap.size p (bs++(zk s.n++S.flatMap d)) w):=by
 subst Z;have u:wfI (s.n:Int):=zj0 _ (by omega)
 have r:=hid (kn b.heap.size p bs (s.n:Int) w u h (by rw[<-List.append_assoc,List.length_append]at O;omega))
 have HL:=hid O;have X:=hid R;have J:=hid C;have m:=hid D;obtain⟨G,esa⟩:∃G,s.a=G:=⟨_,rfl⟩;rw[esa];have L:=hid esa;clear h O R C D esa u;go_enter Tryz.func61,Tryz.ntmps61
 go_wp2_with fail
 refine r.out.mono ?_;rintro e w1 ⟨rfl,o,A,B⟩;have U:=hid o;have T:=hid A;have W:=hid B;clear o A B r;go_wp2;go_loopw [14,7] (fun q _ wr=>∃i:Nat,i<=s.n/\q=.int .i64 i/\Hid (Wr b.heap.size p (bs++(zk s.n++(S.take i).flatMap d)) wr)/\Hid (Below b.heap.size w wr)/\Hid (Fram p w wr)) (fun q _ _=>s.n-(intOf q).toNat)
 case atStart=>exact⟨0,zon _,rfl,by simpa using U,T,W⟩
 case round=>
  obtain⟨i,hi,rfl,F,l,E⟩:=hrel;clear U T W;by_cases P:i<s.n
  ·have M:(i:Int)<(s.n:Int):=by omega
   obtain⟨g,off,x,Q,I,j⟩:=zu (X.out.step kTab.keeps (m.out.trans l.out)) P;obtain rfl:G=some ⟨g,off,none⟩:=by rw[<-L.out];exact Q
   have c0:wr.cell? ⟨g,off+i*6,none⟩=some (.int .i64 x.kind):=kTab.cell j 0 _ rfl;have c1:wr.cell? ⟨g,off+i*6+1,none⟩=some (.slice x.keys.a x.keys.n x.keys.c):=kTab.cell j 1 _ rfl;have c2:wr.cell? ⟨g,off+i*6+2,none⟩=some (.slice x.acts.a x.acts.n x.acts.c):=kTab.cell j 2 _ rfl;have c3:wr.cell? ⟨g,off+i*6+3,none⟩=some (.int .i64 x.cap):=kTab.cell j 3 _ rfl;have c4:wr.cell? ⟨g,off+i*6+4,none⟩=some (.int .i64 x.dflt):=kTab.cell j 4 _ rfl;have c5:wr.cell? ⟨g,off+i*6+5,none⟩=some (.slice x.args.a x.args.n x.args.c):=kTab.cell j 5 _ rfl;have K:=hid (qz (f:=d) I);have k:=zpD d S (i+1);have H:Hid ((bs++(zk s.n++(S.take i).flatMap d)++d x).length<=9000000):=by
    show _<=_;have:=HL.out;rw[K.out]at k;simp only[List.length_append]at this k ⊢;omega
   have y:Hid (Below wr.heap.size wr (wr.alloc (.cells #[.int .i64 x.kind,.slice x.keys.a x.keys.n x.keys.c,.slice x.acts.a x.acts.n x.acts.c,.int .i64 x.cap,.int .i64 x.dflt,.slice x.args.a x.args.n x.args.c] 63))):=ze (zof _ _);have t:b.heap.size<=wr.heap.size:=(m.out.trans l.out).size;have V:=hid (J.out x (zol I) _ _ (F.out.step y.out) ((m.out.trans l.out).trans (y.out.mono t)) H.out);clear Q I j k;go_wp2_with fail
   refine V.out.mono ?_;rintro e w3 ⟨rfl,o,A,B⟩;rw[List.append_assoc,List.append_assoc,<-K.out]at o;have R1:=hid o;have R2:=hid (l.out.trans ((y.out.mono t).trans A));have R3:=hid ((E.out.trans (Fram.below y.out)).trans B);clear o A B F l E V K y;go_wp2;go_roundw
   case rel=>exact⟨i+1,by omega,by go_num,R1,R2,R3⟩
   case measure=>simp[intOf];omega
  ·have M:¬(i:Int)<(s.n:Int):=by omega
   have Y:Hid (km b.heap.size p (bs++(zk s.n++S.flatMap d)) w (.returned (.tuple #[])) wr):=⟨rfl,by have:=F.out;rw[List.take_of_length_le (by rw[X.out.1];omega)]at this;exact this,l.out,E.out⟩
   clear F l E;go_wp2;go_end0
   exact Y.out
theorem zrh(b:World)(p N:Nat)(bs:List Int)(s:QSl)(S:List NodeD)(d:NodeD->List Int)(w:World)(Z:N=64)(h:Wr b.heap.size p bs w)(D:Below b.heap.size b w)(R:QRow 5 NodeD.lie b s S)(hn:s.n<=100000)(O:(bs++(zk s.n++S.flatMap d)).length<=9000000)
 (C:∀x∈S,∀cs w',Wr b.heap.size p cs w'->Below b.heap.size b w'->(cs++d x).length<=9000000->Calls Tryz.prog N #[.pointer (some ⟨p,0,none⟩),.agg #[.int .i64 x.kind,.int .i64 x.n,.slice x.e.a x.e.n x.e.c,.int .i64 x.yes,.int .i64 x.no]] w' (km b.heap.size p (cs++d x) w')):
 Calls Tryz.prog 63 #[.pointer (some ⟨p,0,none⟩),.slice s.a s.n s.c,.func (.func N) #[.pointer (some ⟨p,0,none⟩)] #[]] w (km b.heap.size p (bs++(zk s.n++S.flatMap d)) w):=by
 subst Z;have u:wfI (s.n:Int):=zj0 _ (by omega)
 have r:=hid (kn b.heap.size p bs (s.n:Int) w u h (by rw[<-List.append_assoc,List.length_append]at O;omega))
 have HL:=hid O;have X:=hid R;have J:=hid C;have l:=hid D;obtain⟨G,esa⟩:∃G,s.a=G:=⟨_,rfl⟩;rw[esa];have L:=hid esa;clear h O R C D esa u;go_enter Tryz.func63,Tryz.ntmps63
 go_wp2_with fail
 refine r.out.mono ?_;rintro e w1 ⟨rfl,o,A,B⟩;have U:=hid o;have T:=hid A;have W:=hid B;clear o A B r;go_wp2;go_loopw [14,7] (fun q _ wr=>∃i:Nat,i<=s.n/\q=.int .i64 i/\Hid (Wr b.heap.size p (bs++(zk s.n++(S.take i).flatMap d)) wr)/\Hid (Below b.heap.size w wr)/\Hid (Fram p w wr)) (fun q _ _=>s.n-(intOf q).toNat)
 case atStart=>exact⟨0,zon _,rfl,by simpa using U,T,W⟩
 case round=>
  obtain⟨i,hi,rfl,F,k,E⟩:=hrel;clear U T W;by_cases P:i<s.n
  ·have M:(i:Int)<(s.n:Int):=by omega
   obtain⟨g,off,x,Q,I,m⟩:=zu (X.out.step kNode.keeps (l.out.trans k.out)) P;obtain rfl:G=some ⟨g,off,none⟩:=by rw[<-L.out];exact Q
   have c0:wr.cell? ⟨g,off+i*5,none⟩=some (.int .i64 x.kind):=kNode.cell m 0 _ rfl;have c1:wr.cell? ⟨g,off+i*5+1,none⟩=some (.int .i64 x.n):=kNode.cell m 1 _ rfl;have c2:wr.cell? ⟨g,off+i*5+2,none⟩=some (.slice x.e.a x.e.n x.e.c):=kNode.cell m 2 _ rfl;have c3:wr.cell? ⟨g,off+i*5+3,none⟩=some (.int .i64 x.yes):=kNode.cell m 3 _ rfl;have c4:wr.cell? ⟨g,off+i*5+4,none⟩=some (.int .i64 x.no):=kNode.cell m 4 _ rfl;have K:=hid (qz (f:=d) I);have j:=zpD d S (i+1);have H:Hid ((bs++(zk s.n++(S.take i).flatMap d)++d x).length<=9000000):=by
    show _<=_;have:=HL.out;rw[K.out]at j;simp only[List.length_append]at this j ⊢;omega
   have y:Hid (Below wr.heap.size wr (wr.alloc (.cells #[.int .i64 x.kind,.int .i64 x.n,.slice x.e.a x.e.n x.e.c,.int .i64 x.yes,.int .i64 x.no] 65))):=ze (zof _ _);have t:b.heap.size<=wr.heap.size:=(l.out.trans k.out).size;have V:=hid (J.out x (zol I) _ _ (F.out.step y.out) ((l.out.trans k.out).trans (y.out.mono t)) H.out);clear Q I m j;go_wp2_with fail
   refine V.out.mono ?_;rintro e w3 ⟨rfl,o,A,B⟩;rw[List.append_assoc,List.append_assoc,<-K.out]at o;have R1:=hid o;have R2:=hid (k.out.trans ((y.out.mono t).trans A));have R3:=hid ((E.out.trans (Fram.below y.out)).trans B);clear o A B F k E V K y;go_wp2;go_roundw
   case rel=>exact⟨i+1,by omega,by go_num,R1,R2,R3⟩
   case measure=>simp[intOf];omega
  ·have M:¬(i:Int)<(s.n:Int):=by omega
   have Y:Hid (km b.heap.size p (bs++(zk s.n++S.flatMap d)) w (.returned (.tuple #[])) wr):=⟨rfl,by have:=F.out;rw[List.take_of_length_le (by rw[X.out.1];omega)]at this;exact this,k.out,E.out⟩
   clear F k E;go_wp2;go_end0
   exact Y.out
end Go.Proofs.YtbmcgbmegcpgnaaGreat
