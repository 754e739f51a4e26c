import Derived.Test.YtbmcgbmegcpgnaaGreatVZWr3
set_option maxHeartbeats 4000000
set_option maxRecDepth 20000
set_option linter.unusedSimpArgs false
namespace Go.Proofs.YtbmcgbmegcpgnaaGreat
open Go.RowKit
def xr(ns:List Int):List Int:=zk ns.length++ns.flatMap zk
def zqa(zs:List Int):List Int:=zk zs.length++zs.flatMap fun z=>y8 z.toNat
theorem zpA(b:World)(p:Nat)(bs:List Int)(s:QSl)(S:List Int)(w:World)(h:Wr b.heap.size p bs w)(A:Below b.heap.size b w)(H:Has .i64 b s.a s.n S)(hn:s.n<=100000)(D:(bs++xr S).length<=9000000):
 Calls Tryz.prog 55 #[.pointer (some ⟨p,0,none⟩),.slice s.a s.n s.c,.func (.func 56) #[.pointer (some ⟨p,0,none⟩)] #[]] w (km b.heap.size p (bs++xr S) w):=by
 have P:xr S=zk (s.n:Int)++S.flatMap zk:=by unfold xr;rw[H.1]
 rw[P]at D ⊢;have l:wfI (s.n:Int):=zj0 _ (by omega)
 have j:=hid (kn b.heap.size p bs (s.n:Int) w l h (by rw[<-List.append_assoc,List.length_append]at D;omega))
 have Y:=hid D;have E:=hid H;have K:=hid A;obtain⟨F,esa⟩:∃F,s.a=F:=⟨_,rfl⟩;rw[esa];have L:=hid esa;clear h D H A esa l P;go_enter Tryz.func55,Tryz.ntmps55
 go_wp2_with fail
 refine j.out.mono ?_;rintro e w1 ⟨rfl,t,r,u⟩;have R:=hid t;have Q:=hid r;have U:=hid u;clear t r u j;go_wp2;go_loopw [14,7] (fun q _ wr=>∃i:Nat,i<=s.n/\q=.int .i64 i/\Hid (Wr b.heap.size p (bs++(zk s.n++(S.take i).flatMap zk)) wr)/\Hid (Below b.heap.size w wr)/\Hid (Fram p w wr)) (fun q _ _=>s.n-(intOf q).toNat)
 case atStart=>exact⟨0,zon _,rfl,by simpa using R,Q,U⟩
 case round=>
  obtain⟨i,hi,rfl,C,o,B⟩:=hrel;clear R Q U;by_cases y:i<s.n
  ·have M:(i:Int)<(s.n:Int):=by omega
   have k:i<S.length:=by rw[E.out.1];exact y
   obtain⟨g,off,O,_,N⟩:=(E.out.step (K.out.trans o.out)).some (by omega)
   obtain rfl:F=some ⟨g,off,none⟩:=by rw[<-L.out];exact O
   have I:=zoh k;have m:=E.out.2.1 _ (List.getElem_mem k);have c0:=N i y;rw[zoi,I,zoC]at c0;have J:=hid (qz (f:=zk) I);have d:=zpD zk S (i+1);generalize S[i]=x at*;have G:Hid ((bs++(zk s.n++(S.take i).flatMap zk)++zk x).length<=9000000):=by
    show _<=_;have:=Y.out;rw[J.out]at d;simp only[List.length_append]at this d ⊢;omega
   have T:=hid (kn b.heap.size p _ x wr m C.out G.out);clear O I d m N;go_wp2_with fail
   refine T.out.mono ?_;rintro e W ⟨rfl,t,r,u⟩;have X:Hid (Wr b.heap.size p (bs++(zk s.n++(S.take (i+1)).flatMap zk)) W):=by show Wr _ _ _ _;rw[J.out];simpa using t
   have Z:=hid (o.out.trans r);have R3:=hid (B.out.trans u);clear t r u C o B T J;go_wp2;go_roundw
   case rel=>exact⟨i+1,by omega,by go_num,X,Z,R3⟩
   case measure=>simp[intOf];omega
  ·have M:¬(i:Int)<(s.n:Int):=by omega
   have V:Hid (km b.heap.size p (bs++(zk s.n++S.flatMap zk)) w (.returned (.tuple #[])) wr):=⟨rfl,by have:=C.out;rw[List.take_of_length_le (by rw[E.out.1];omega)]at this;exact this,o.out,B.out⟩
   clear C o B;go_wp2;go_end0
   exact V.out
theorem zro(b:World)(p:Nat)(bs:List Int)(s:QSl)(S:List Int)(w:World)(h:Wr b.heap.size p bs w)(A:Below b.heap.size b w)(I:Has .u64 b s.a s.n S)(hn:s.n<=100000)(E:(bs++zqa S).length<=9000000):
 Calls Tryz.prog 107 #[.pointer (some ⟨p,0,none⟩),.slice s.a s.n s.c,.func (.func 101) #[.pointer (some ⟨p,0,none⟩)] #[]] w (km b.heap.size p (bs++zqa S) w):=by
 have R:zqa S=zk (s.n:Int)++S.flatMap (fun z=>y8 z.toNat):=by unfold zqa;rw[I.1]
 rw[R]at E ⊢;have l:wfI (s.n:Int):=zj0 _ (by omega)
 have j:=hid (kn b.heap.size p bs (s.n:Int) w l h (by rw[<-List.append_assoc,List.length_append]at E;omega))
 have HL:=hid E;have F:=hid I;have L:=hid A;obtain⟨G,esa⟩:∃G,s.a=G:=⟨_,rfl⟩;rw[esa];have M:=hid esa;clear h E I A esa l R;go_enter Tryz.func107,Tryz.ntmps107
 go_wp2_with fail
 refine j.out.mono ?_;rintro e w1 ⟨rfl,t,r,u⟩;have U:=hid t;have T:=hid r;have W:=hid u;clear t r u j;go_wp2;go_loopw [14,7] (fun q _ wr=>∃i:Nat,i<=s.n/\q=.int .i64 i/\Hid (Wr b.heap.size p (bs++(zk s.n++(S.take i).flatMap (fun z=>y8 z.toNat))) wr)/\Hid (Below b.heap.size w wr)/\Hid (Fram p w wr)) (fun q _ _=>s.n-(intOf q).toNat)
 case atStart=>exact⟨0,zon _,rfl,by simpa using U,T,W⟩
 case round=>
  obtain⟨i,hi,rfl,C,o,B⟩:=hrel;clear U T W;by_cases y:i<s.n
  ·have O:(i:Int)<(s.n:Int):=by omega
   have k:i<S.length:=by rw[F.out.1];exact y
   obtain⟨g,off,Q,_,P⟩:=(F.out.step (L.out.trans o.out)).some (by omega)
   obtain rfl:G=some ⟨g,off,none⟩:=by rw[<-M.out];exact Q
   have K:=zoh k;have m:=F.out.2.1 _ (List.getElem_mem k);have c0:=P i y;rw[zoi,K,zoC]at c0;have D:=hid (qz (f:=(fun z=>y8 z.toNat)) K)
   have d:=zpD (fun z=>y8 z.toNat) S (i+1)
   generalize S[i]=x at*;have X:=bounds_u64 m;obtain⟨N,rfl⟩:∃N:Nat,x=N:=⟨x.toNat,by omega⟩
   rw[zov]at D;have J:N<18446744073709551616:=by omega
   have H:Hid ((bs++(zk s.n++(S.take i).flatMap (fun z=>y8 z.toNat))++y8 N).length<=9000000):=by
    show _<=_;have:=HL.out;rw[D.out]at d;simp only[List.length_append]at this d ⊢;omega
   have V:=hid (zp9 b.heap.size p _ N wr J C.out H.out);clear Q K d m P;go_wp2_with fail
   refine V.out.mono ?_;rintro e Z ⟨rfl,t,r,u⟩;have R1:Hid (Wr b.heap.size p (bs++(zk s.n++(S.take (i+1)).flatMap (fun z=>y8 z.toNat))) Z):=by show Wr _ _ _ _;rw[D.out];simpa using t
   have R2:=hid (o.out.trans r);have R3:=hid (B.out.trans u);clear t r u C o B V D;go_wp2;go_roundw
   case rel=>exact⟨i+1,by omega,by go_num,R1,R2,R3⟩
   case measure=>simp[intOf];omega
  ·have O:¬(i:Int)<(s.n:Int):=by omega
   have Y:Hid (km b.heap.size p (bs++(zk s.n++S.flatMap (fun z=>y8 z.toNat))) w (.returned (.tuple #[])) wr):=⟨rfl,by have:=C.out;rw[List.take_of_length_le (by rw[F.out.1];omega)]at this;exact this,o.out,B.out⟩
   clear C o B;go_wp2;go_end0
   exact Y.out
theorem zs5(d:World)(p:Nat)(bs:List Int)(x:HeadD)(w:World)(h:Wr d.heap.size p bs w)(f:Below d.heap.size d w)(m:Has .i64 d x.w.a x.w.n x.ws)(r:x.w.n<=100000)(l:(bs++xr x.ws).length<=9000000):
 Calls Tryz.prog 54 #[.pointer (some ⟨p,0,none⟩),.agg #[.slice x.w.a x.w.n x.w.c]] w (km d.heap.size p (bs++xr x.ws) w):=by
 have b:Below w.heap.size w (w.alloc (.cells #[.slice x.w.a x.w.n x.w.c] 53)):=ze (zof _ _);have k:=hid (zpA d p bs x.w x.ws (w.alloc (.cells #[.slice x.w.a x.w.n x.w.c] 53)) (h.step b) (f.trans (b.mono h.bl)) m r l);have HD:Hid (∀w',Wr d.heap.size p (bs++xr x.ws) w'->Below d.heap.size (w.alloc (.cells #[.slice x.w.a x.w.n x.w.c] 53)) w'->Fram p (w.alloc (.cells #[.slice x.w.a x.w.n x.w.c] 53)) w'->km d.heap.size p (bs++xr x.ws) w (.returned (.tuple #[])) w'):=fun w' j i g=>⟨rfl,j,(b.mono h.bl).trans i,(Fram.below b).trans g⟩
 have o:∀(fn:Fn) (first cap:Array Value) (w:World),(Instr.makeFunc fn first cap).run Tryz.prog w=.ok (.func fn first cap) w:=fun _ _ _ _=>rfl
 clear h l m b f;go_enter Tryz.func54,Tryz.ntmps54
 go_wp2_with fail
 refine k.out.mono ?_;rintro e s ⟨rfl,j,i,g⟩;have q:=hid (HD.out s j i g);clear j i g k HD;go_wp2;go_end0
 exact q.out
end Go.Proofs.YtbmcgbmegcpgnaaGreat
