import Derived.Test.YtbmcgbmegcpgnaaGreatVQCase
set_option maxHeartbeats 4000000
set_option maxRecDepth 20000
set_option linter.unusedSimpArgs false
namespace Go.Proofs.YtbmcgbmegcpgnaaGreat
open Go.RowKit
def isK(kind:Int):Bool:=decide (kind=1\/kind=2\/kind=3)
def kr(kind:Int):Int:=if kind=2 then 1 else 3
theorem zio(x:Int)(w:World):Calls Tryz.prog 136 #[.int .i64 x] w fun e w'=>e=.returned (.bool (isK x))/\w'=w:=by
 by_cases c:x=1
 ·subst c;go_enter Tryz.func136,Tryz.ntmps136
  go_wp2;go_ret;exact⟨rfl,rfl⟩
 have f:(x==1)=false:=by simpa using c
 by_cases b:x=2
 ·subst b;go_enter Tryz.func136,Tryz.ntmps136
  go_wp2;go_ret;exact⟨rfl,rfl⟩
 have i:(x==2)=false:=by simpa using b
 by_cases a:x=3
 ·subst a;go_enter Tryz.func136,Tryz.ntmps136
  go_wp2;go_ret;exact⟨rfl,rfl⟩
 have g:(x==3)=false:=by simpa using a
 have d:Hid (isK x=false):=zoX (fun h=>h.elim c (fun h=>h.elim b a))
 go_enter Tryz.func136,Tryz.ntmps136
 go_wp2;go_ret;exact⟨by rw[d.out];rfl,rfl⟩
theorem zip(x:Int)(w:World):Calls Tryz.prog 138 #[.int .i64 x] w fun e w'=>e=.returned (.int .i64 (kr x))/\w'=w:=by
 by_cases a:x=2
 ·subst a;go_enter Tryz.func138,Tryz.ntmps138
  go_wp2;go_ret;exact⟨rfl,rfl⟩
 ·have c:(x==2)=false:=by simpa using a
  have b:Hid (kr x=3):=if_neg a;go_enter Tryz.func138,Tryz.ntmps138
  go_wp2;go_ret;exact⟨by rw[b.out];rfl,rfl⟩
def InC(low a:Int)(L:List Int):Bool:=L.all fun x=>decide (low<=x/\x<=a)
theorem xQ{w:World}{a:Option Addr}{n:Nat}{L:List Int}(h:Has .i64 w a n L){k:Nat}(c:k<n):∃g off x,a=some ⟨g,off,none⟩/\L[k]?=some x/\w.cell? ⟨g,off+k,none⟩=some (.int .i64 x):=by
 obtain⟨g,off,e,_,d⟩:=h.some (by omega)
 have b:k<L.length:=by rw[h.1];exact c
 have:=d k c;rw[zoi,zoh b,zoC]at this;exact⟨g,off,_,e,zoh b,this⟩
theorem zg8{w:World}{a:Option Addr}{n:Nat}{L:List Int}(h:Has .u64 w a n L){k:Nat}(c:k<n):∃g off x,a=some ⟨g,off,none⟩/\L[k]?=some x/\w.cell? ⟨g,off+k,none⟩=some (.int .u64 x):=by
 obtain⟨g,off,e,_,d⟩:=h.some (by omega)
 have b:k<L.length:=by rw[h.1];exact c
 have:=d k c;rw[zoi,zoh b,zoC]at this;exact⟨g,off,_,e,zoh b,this⟩
theorem zaj(low b:Int)(a:Option Addr)(n c:Nat)(L:List Int)(w:World)(F:n<=100000)(h:Has .i64 w a n L):
 Calls Tryz.prog 137 #[.int .i64 low,.int .i64 b,.slice a n c] w fun e w'=>e=.returned (.bool (InC low b L))/\w'=w:=by
 have B:=hid h;have x:=hid h.1;clear h;go_enter Tryz.func137,Tryz.ntmps137
 go_wp2;go_loop [11,8] (fun q _=>∃k:Nat,k<=n/\q=.int .i64 k/\Hid (InC low b L=InC low b (L.drop k))) (fun q _=>n-(intOf q).toNat)
 case atStart=>exact⟨0,zon _,rfl,rfl⟩
 case round=>
  obtain⟨k,D,rfl,hz⟩:=hrel;by_cases l:k<n
  ·obtain⟨g,off,y,j,s,E⟩:=xQ B.out l;subst j;have t:(k:Int)<(n:Int):=by omega
   have d:InC low b (L.drop k)=(decide (low<=y/\y<=b)&&InC low b (L.drop (k+1))):=by
    obtain⟨i,e⟩:=zok.1 s;rw[zoM i,e];rfl
   clear s;by_cases r:y<low
   ·have C:=zoY r;have f:Hid (InC low b L=false):=by show _=_;rw[hz.out,d,zoX (by omega)];rfl
    clear d hz;go_wp2;go_ret;exact⟨by rw[f.out];rfl,rfl⟩
   have C:=zoX r;by_cases o:b<y
   ·have u:=zoY o;have f:Hid (InC low b L=false):=by show _=_;rw[hz.out,d,zoX (by omega)];rfl
    clear d hz;go_wp2;go_ret;exact⟨by rw[f.out];rfl,rfl⟩
   ·have u:=zoX o;have A:Hid (InC low b L=InC low b (L.drop (k+1))):=by show _=_;rw[hz.out,d,zoY (by omega)];rfl
    clear d hz;go_wp2;go_round
    case rel=>exact⟨k+1,by omega,by go_num,A⟩
    case measure=>simp[intOf];omega
  ·have m:k=n:=by omega
   have f:Hid (InC low b L=true):=by show _=_;rw[hz.out,m,<-x.out,zoP];rfl
   clear hz;subst m;go_wp2;go_ret;exact⟨by rw[f.out];rfl,rfl⟩
def jQ:List Int->List Int->Bool
 |x::l,y::ws=>decide (ku x<=y)&&jQ l ws
 |_,_=>true
theorem ze5{l ws:List Int}{k:Nat}{x y:Int}(f:l[k]?=some x)(a:ws[k]?=some y):jQ (l.drop k) (ws.drop k)=(decide (ku x<=y)&&jQ (l.drop (k+1)) (ws.drop (k+1))):=by
 obtain⟨e,d⟩:=zok.1 f;obtain⟨c,b⟩:=zok.1 a;rw[zoM e,zoM c,d,b];rfl
theorem ze6(a b:Option Addr)(n m c d:Nat)(l ws:List Int)(w:World)(V:n<=m)(Y:n<=100000)(ha:Has .u64 w a n l)(hb:Has .i64 w b m ws):
 Calls Tryz.prog 158 #[.slice a n c,.slice b m d] w fun e w'=>e=.returned (.bool (jQ l ws))/\Below w.heap.size w w':=by
 have T:=hid ha;have R:=hid hb;have S:=hid ha.1;have C:=hid ha.nums;have A:Hid (Below w.heap.size w w):=zof _ _;clear ha hb;go_enter Tryz.func158,Tryz.ntmps158
 go_wp2;go_loopw [9,5,6] (fun q _ _ wr=>∃k:Nat,k<=n/\q=.int .i64 k/\Hid (jQ l ws=jQ (l.drop k) (ws.drop k))/\Hid (Below w.heap.size w wr)) (fun q _ _ _=>n-(intOf q).toNat)
 case atStart=>exact⟨0,zon _,rfl,rfl,A⟩
 case round=>
  obtain⟨k,X,rfl,hz,f⟩:=hrel;clear A;by_cases G:k<n
  ·obtain⟨g,off,x,B,D,Q⟩:=zg8 (T.out.step f.out) G;obtain⟨Z,J,y,F,M,N⟩:=xQ (R.out.step f.out) (show k<m by omega)
   subst B F;have P:(k:Int)<(n:Int):=by omega
   have O:(k:Int)<(m:Int):=by omega
   have r:=ze5 D M;have o:=C.out x (zol D);have u:=zm N;have h:Hid (∀w',Calls Tryz.prog 130 #[.int .u64 x] w' fun e E=>e=.returned (.int .i64 (ku x))/\E=w'):=fun w'=>zdF x w' o.1 o.2
   clear D M o;generalize ku x=L at*;by_cases K:y<L
   ·have W:=zoY K;have H:Hid (jQ l ws=false):=by show _=_;rw[hz.out,r,zoX (by omega)];rfl
    clear r hz;go_wp2_with fail
    haveI inhB:∀w:World,Inhabited (zq w):=fun w=>⟨⟨w,zof _ _⟩⟩
    refine zi (by kernel_rfl) (by kernel_rfl) ?_
    repeat (go_big_quiet_step (first|(go_at_call 130;exact zt _ (h.out _))))
    refine wpQuiet_nil ?_;intro wq s;obtain⟨⟨_,j⟩,i⟩:=s;subst i;have t:=hid (zh f.out j);clear j h u;go_wp2;go_ret;exact⟨by rw[H.out];rfl,t.out⟩
   ·have W:=zoX K;have U:Hid (jQ l ws=jQ (l.drop (k+1)) (ws.drop (k+1))):=by show _=_;rw[hz.out,r,zoY (by omega)];rfl
    clear r hz;go_wp2_with fail
    haveI inhB:∀w:World,Inhabited (zq w):=fun w=>⟨⟨w,zof _ _⟩⟩
    refine zi (by kernel_rfl) (by kernel_rfl) ?_
    repeat (go_big_quiet_step (first|(go_at_call 130;exact zt _ (h.out _))))
    refine wpQuiet_nil ?_;intro wq s;obtain⟨⟨_,j⟩,i⟩:=s;subst i;have t:=hid (zh f.out j);clear j h u Q N f;go_wp2;go_roundw
    case rel=>exact⟨k+1,by omega,by go_num,U,t⟩
    case measure=>simp[intOf];omega
  ·have I:k=n:=by omega
   have H:Hid (jQ l ws=true):=by
    show _=_;rw[hz.out,I,<-S.out,zoP];rfl
   have t:=hid f.out;clear hz f;subst I;go_wp2;go_ret;exact⟨by rw[H.out];rfl,t.out⟩
end Go.Proofs.YtbmcgbmegcpgnaaGreat
