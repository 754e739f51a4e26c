import Derived.Test.YtbmcgbmegcpgnaaGreatVQCase
set_option maxHeartbeats 4000000
set_option maxRecDepth 20000
set_option linter.unusedSimpArgs false
namespace Go.Proofs.YtbmcgbmegcpgnaaGreat
open Go.RowKit
def xX(L:List Int)(w:World)(e:Ending)(w':World):Prop:=e=.returned (.int .i64 (zn L))/\Below w.heap.size w w'
theorem zaL{w:World}{s:QSl}{L:List Int}(h:Has .i64 w s.a s.n L){k:Nat}(c:k<s.n):∃g off x,s.a=some ⟨g,off,none⟩/\L[k]?=some x/\w.cell? ⟨g,off+k,none⟩=some (.int .i64 x):=by
 obtain⟨g,off,e,_,d⟩:=h.some (by omega)
 have b:k<L.length:=by rw[h.1];exact c
 have:=d k c;rw[zoi,zoh b,zoC]at this;exact⟨g,off,_,e,zoh b,this⟩
theorem zc9(K:Value)(s:QSl)(L:List CaseD)(b:CaseD->Int)(w:World)(hs:s.n<=100000)(y:QRow 3 CaseD.lie w s L)
 (J:∀w',Below w.heap.size w w'->∀c∈L,Calls Tryz.prog 90 #[K,.agg #[.int .u64 c.value,.int .u64 c.mask,.int .i64 c.to]] w' fun e E=>e=.returned (.int .i64 (b c))/\Below w'.heap.size w' E):
 Calls Tryz.prog 89 #[.slice s.a s.n s.c,.func (.func 90) #[K] #[]] w (xX (L.map b) w):=by
 have HD:Hid (∀w' R,zn (L.map b)=R->Below w.heap.size w w'->xX (L.map b) w (.returned (.int .i64 R)) w'):=fun w' R h hb=>⟨by rw[h],hb⟩
 obtain⟨B,ee⟩:∃B,s.a=B:=⟨_,rfl⟩;have T:=hid y;have S:=hid J;have Q:=hid y.1;have r:Hid (Below w.heap.size w w):=zof _ _;rw[ee];have P:=hid ee;clear y J ee;go_enter Tryz.func89,Tryz.ntmps89
 go_wp2;go_loopw [10,6,7] (fun q _ _ wr=>∃k:Nat,k<=s.n/\q=.int .i64 k/\Hid (zn (L.map b)=zn ((L.drop k).map b))/\Hid (Below w.heap.size w wr)) (fun q _ _ _=>s.n-(intOf q).toNat)
 case atStart=>exact⟨0,zon _,rfl,rfl,r⟩
 case round=>
  obtain⟨k,W,rfl,d,hb⟩:=hrel;clear r;by_cases H:k<s.n
  ·obtain⟨g,off,x,m,D,⟨X,_⟩,⟨Y,_⟩,⟨U,_⟩⟩:=zu (T.out.step CaseD.keeps hb.out) H;obtain rfl:B=some ⟨g,off,none⟩:=by rw[<-P.out];exact m
   have N:(k:Int)<(s.n:Int):=by omega
   have j:zn ((L.drop k).map b)=if b x≠0 then b x else zn ((L.drop (k+1)).map b):=by
    obtain⟨A,e⟩:=zok.1 D;rw[zoM A,e];rfl
   have i:=hid (S.out (wr.alloc (.cells #[.int .u64 x.value,.int .u64 x.mask,.int .i64 x.to] 98)) (zh hb.out (ze (zof _ _))) x (zol D));have t:=hid (ze (o:=.cells #[.int .u64 x.value,.int .u64 x.mask,.int .i64 x.to] 98) (zof wr.heap.size wr));clear m D;generalize b x=C at*;by_cases u:C=0
   ·have G:Hid (zn (L.map b)=zn ((L.drop (k+1)).map b)):=by show zn (L.map b)=_;rw[d.out,j,if_neg (by simp[u])]
    subst u;clear j d;go_wp2_with fail
    refine i.out.mono ?_;rintro e O ⟨rfl,f⟩;have l:=hid (zh (zh hb.out t.out) f);clear i f hb t;go_wp2;go_roundw
    case rel=>exact⟨k+1,by omega,by go_num,G,l⟩
    case measure=>simp[intOf];omega
   ·have G:Hid (zn (L.map b)=C):=by show zn (L.map b)=_;rw[d.out,j,if_pos u]
    have V:(C !=0)=true:=by simpa using u
    clear j d;go_wp2_with fail
    refine i.out.mono ?_;rintro e O ⟨rfl,f⟩;have l:=hid (zh (zh hb.out t.out) f);clear i f hb t;go_wp2;go_ret;exact HD.out _ _ G.out l.out
  ·have I:k=s.n:=by omega
   have M:Hid (zn (L.map b)=0):=by
    show zn (L.map b)=_;rw[d.out,I,<-Q.out,zoP];rfl
   have F:=hid hb.out;clear d hb;subst I;go_wp2;go_ret;exact HD.out _ _ M.out F.out
theorem zeP(N:Value)(s:QSl)(L:List OpD)(b:OpD->Int)(w:World)(hs:s.n<=100000)(B:QRow 5 OpD.lie w s L)
 (M:∀w',Below w.heap.size w w'->∀c∈L,Calls Tryz.prog 94 #[N,.agg #[.int .i64 c.kind,.int .i64 c.r.h,.int .i64 c.r.f,.int .i64 c.head,.slice c.e.a c.e.n c.e.c]] w' fun e G=>e=.returned (.int .i64 (b c))/\Below w'.heap.size w' G):
 Calls Tryz.prog 93 #[.slice s.a s.n s.c,.func (.func 94) #[N] #[]] w (xX (L.map b) w):=by
 have HD:Hid (∀w' R,zn (L.map b)=R->Below w.heap.size w w'->xX (L.map b) w (.returned (.int .i64 R)) w'):=fun w' R h hb=>⟨by rw[h],hb⟩
 obtain⟨E,ee⟩:∃E,s.a=E:=⟨_,rfl⟩;have V:=hid B;have U:=hid M;have T:=hid B.1;have u:Hid (Below w.heap.size w w):=zof _ _;rw[ee];have S:=hid ee;clear B M ee;go_enter Tryz.func93,Tryz.ntmps93
 go_wp2;go_loopw [10,6,7] (fun q _ _ wr=>∃k:Nat,k<=s.n/\q=.int .i64 k/\Hid (zn (L.map b)=zn ((L.drop k).map b))/\Hid (Below w.heap.size w wr)) (fun q _ _ _=>s.n-(intOf q).toNat)
 case atStart=>exact⟨0,zon _,rfl,rfl,u⟩
 case round=>
  obtain⟨k,Y,rfl,d,hb⟩:=hrel;clear u;by_cases J:k<s.n
  ·obtain⟨g,off,x,t,F,⟨Z,_⟩,⟨r1,_⟩,⟨W,_⟩,⟨r3,_⟩,⟨r4,_⟩,_⟩:=zu (V.out.step OpD.keeps hb.out) J;obtain rfl:E=some ⟨g,off,none⟩:=by rw[<-S.out];exact t
   have P:(k:Int)<(s.n:Int):=by omega
   have l:zn ((L.drop k).map b)=if b x≠0 then b x else zn ((L.drop (k+1)).map b):=by
    obtain⟨D,e⟩:=zok.1 F;rw[zoM D,e];rfl
   have j:=hid (U.out (wr.alloc (.cells #[.int .i64 x.kind,.int .i64 x.r.h,.int .i64 x.r.f,.int .i64 x.head,.slice x.e.a x.e.n x.e.c] 59)) (zh hb.out (ze (zof _ _))) x (zol F));have y:=hid (ze (o:=.cells #[.int .i64 x.kind,.int .i64 x.r.h,.int .i64 x.r.f,.int .i64 x.head,.slice x.e.a x.e.n x.e.c] 59) (zof wr.heap.size wr));clear t F;generalize b x=C at*;by_cases A:C=0
   ·have I:Hid (zn (L.map b)=zn ((L.drop (k+1)).map b)):=by show zn (L.map b)=_;rw[d.out,l,if_neg (by simp[A])]
    subst A;clear l d;go_wp2_with fail
    refine j.out.mono ?_;rintro e Q ⟨rfl,i⟩;have m:=hid (zh (zh hb.out y.out) i);clear j i hb y;go_wp2;go_roundw
    case rel=>exact⟨k+1,by omega,by go_num,I,m⟩
    case measure=>simp[intOf];omega
   ·have I:Hid (zn (L.map b)=C):=by show zn (L.map b)=_;rw[d.out,l,if_pos A]
    have X:(C !=0)=true:=by simpa using A
    clear l d;go_wp2_with fail
    refine j.out.mono ?_;rintro e Q ⟨rfl,i⟩;have m:=hid (zh (zh hb.out y.out) i);clear j i hb y;go_wp2;go_ret;exact HD.out _ _ I.out m.out
  ·have K:k=s.n:=by omega
   have O:Hid (zn (L.map b)=0):=by
    show zn (L.map b)=_;rw[d.out,K,<-T.out,zoP];rfl
   have H:=hid hb.out;clear d hb;subst K;go_wp2;go_ret;exact HD.out _ _ O.out H.out
theorem zd6(s:QSl)(L:List Int)(b:Int->Int)(w:World)(hs:s.n<=100000)(u:Has .i64 w s.a s.n L)
 (I:∀w',Below w.heap.size w w'->∀c∈L,Calls Tryz.prog 85 #[.int .i64 c] w' fun e D=>e=.returned (.int .i64 (b c))/\Below w'.heap.size w' D):
 Calls Tryz.prog 92 #[.slice s.a s.n s.c,.func (.func 85) #[] #[]] w (xX (L.map b) w):=by
 have HD:Hid (∀w' R,zn (L.map b)=R->Below w.heap.size w w'->xX (L.map b) w (.returned (.int .i64 R)) w'):=fun w' R h hb=>⟨by rw[h],hb⟩
 obtain⟨A,ee⟩:∃A,s.a=A:=⟨_,rfl⟩;have Q:=hid u;have P:=hid I;have O:=hid u.1;have o:Hid (Below w.heap.size w w):=zof _ _;rw[ee];have N:=hid ee;clear u I ee;go_enter Tryz.func92,Tryz.ntmps92
 go_wp2;go_loopw [10,6,7] (fun q _ _ wr=>∃k:Nat,k<=s.n/\q=.int .i64 k/\Hid (zn (L.map b)=zn ((L.drop k).map b))/\Hid (Below w.heap.size w wr)) (fun q _ _ _=>s.n-(intOf q).toNat)
 case atStart=>exact⟨0,zon _,rfl,rfl,o⟩
 case round=>
  obtain⟨k,T,rfl,d,hb⟩:=hrel;clear o;by_cases G:k<s.n
  ·obtain⟨g,off,x,m,B,U⟩:=zaL (Q.out.step hb.out) G;obtain rfl:A=some ⟨g,off,none⟩:=by rw[<-N.out];exact m
   have K:(k:Int)<(s.n:Int):=by omega
   have j:zn ((L.drop k).map b)=if b x≠0 then b x else zn ((L.drop (k+1)).map b):=by
    obtain⟨y,e⟩:=zok.1 B;rw[zoM y,e];rfl
   have i:=hid (P.out wr (hb.out) x (zol B));have r:=hid (zof wr.heap.size wr);clear m B;generalize b x=C at*;by_cases t:C=0
   ·have F:Hid (zn (L.map b)=zn ((L.drop (k+1)).map b)):=by show zn (L.map b)=_;rw[d.out,j,if_neg (by simp[t])]
    subst t;clear j d;go_wp2_with fail
    refine i.out.mono ?_;rintro e M ⟨rfl,f⟩;have l:=hid (zh (zh hb.out r.out) f);clear i f hb r;go_wp2;go_roundw
    case rel=>exact⟨k+1,by omega,by go_num,F,l⟩
    case measure=>simp[intOf];omega
   ·have F:Hid (zn (L.map b)=C):=by show zn (L.map b)=_;rw[d.out,j,if_pos t]
    have S:(C !=0)=true:=by simpa using t
    clear j d;go_wp2_with fail
    refine i.out.mono ?_;rintro e M ⟨rfl,f⟩;have l:=hid (zh (zh hb.out r.out) f);clear i f hb r;go_wp2;go_ret;exact HD.out _ _ F.out l.out
  ·have H:k=s.n:=by omega
   have J:Hid (zn (L.map b)=0):=by
    show zn (L.map b)=_;rw[d.out,H,<-O.out,zoP];rfl
   have E:=hid hb.out;clear d hb;subst H;go_wp2;go_ret;exact HD.out _ _ J.out E.out
end Go.Proofs.YtbmcgbmegcpgnaaGreat
