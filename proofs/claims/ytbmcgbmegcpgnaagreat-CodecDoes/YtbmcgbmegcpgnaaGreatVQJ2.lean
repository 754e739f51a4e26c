import Derived.Test.YtbmcgbmegcpgnaaGreatVQPure
import Derived.Test.YtbmcgbmegcpgnaaGreatG1
set_option maxHeartbeats 1000000
set_option maxRecDepth 20000
set_option linter.unusedSimpArgs false
namespace Go.Proofs.YtbmcgbmegcpgnaaGreat
open Go.RowKit
theorem zh6(a:Option Addr)(n c:Nat)(k:Int)(w:World):Calls Tryz.prog 159 #[.slice a n c,.int .i64 k] w fun e w'=>e=.returned (.bool (decide (0<=k/\k<(n:Int))))/\w'=w:=by
 by_cases d:0<=k
 ·have g:=zoY d;by_cases f:k<(n:Int)
  ·have i:=zoY f;have b:=hid (zoY (⟨d,f⟩:0<=k/\k<(n:Int)));go_enter Tryz.func159,Tryz.ntmps159
   go_wp2;go_ret;exact⟨by first|rfl|(rw[b.out];rfl),rfl⟩
  ·have i:=zoX f;have b:=hid (zoX (fun h=>f h.2:¬(0<=k/\k<(n:Int))))
   go_enter Tryz.func159,Tryz.ntmps159
   go_wp2;go_ret;exact⟨by first|rfl|(rw[b.out];rfl),rfl⟩
 ·have g:=zoX d;have b:=hid (zoX (fun h=>d h.1:¬(0<=k/\k<(n:Int))))
  go_enter Tryz.func159,Tryz.ntmps159
  go_wp2;go_ret;exact⟨by first|rfl|(rw[b.out];rfl),rfl⟩
theorem zh7(a:Option Addr)(n c:Nat)(k:Int)(w:World):Calls Tryz.prog 160 #[.slice a n c,.int .i64 k] w fun e w'=>e=.returned (.bool (decide (0<=k/\k<(n:Int))))/\w'=w:=by
 by_cases d:0<=k
 ·have g:=zoY d;by_cases f:k<(n:Int)
  ·have i:=zoY f;have b:=hid (zoY (⟨d,f⟩:0<=k/\k<(n:Int)));go_enter Tryz.func160,Tryz.ntmps160
   go_wp2;go_ret;exact⟨by first|rfl|(rw[b.out];rfl),rfl⟩
  ·have i:=zoX f;have b:=hid (zoX (fun h=>f h.2:¬(0<=k/\k<(n:Int))))
   go_enter Tryz.func160,Tryz.ntmps160
   go_wp2;go_ret;exact⟨by first|rfl|(rw[b.out];rfl),rfl⟩
 ·have g:=zoX d;have b:=hid (zoX (fun h=>d h.1:¬(0<=k/\k<(n:Int))))
  go_enter Tryz.func160,Tryz.ntmps160
  go_wp2;go_ret;exact⟨by first|rfl|(rw[b.out];rfl),rfl⟩
theorem zeR(a:Option Addr)(n c:Nat)(k:Int)(w:World):Calls Tryz.prog 134 #[.slice a n c,.int .i64 k] w fun e w'=>e=.returned (.int .i64 (xz n k))/\w'=w:=by
 have b:Hid (∀w',Calls Tryz.prog 86 #[.slice a n c,.int .i64 k] w' fun e f=>e=.returned (.bool (decide (0<=k/\k<(n:Int))))/\f=w'):=fun w'=>zbN a n c k w'
 by_cases h:0<=k/\k<(n:Int)
 ·have d:Hid (xz n k=0):=by simp only[Hid,xz,if_pos h]
  rw[zoY h]at b;clear h;go_enter Tryz.func134,Tryz.ntmps134
  go_wp2_with fail
  refine(b.out _).mono ?_;rintro e g ⟨rfl,rfl⟩;clear b;go_wp2;go_ret;exact⟨by rw[d.out];rfl,rfl⟩
 ·have d:Hid (xz n k=1):=by simp only[Hid,xz,if_neg h]
  rw[zoX h]at b;clear h;go_enter Tryz.func134,Tryz.ntmps134
  go_wp2_with fail
  refine(b.out _).mono ?_;rintro e g ⟨rfl,rfl⟩;clear b;go_wp2;go_ret;exact⟨by rw[d.out];rfl,rfl⟩
theorem zkf(a:Option Addr)(n c:Nat)(k:Int)(w:World):Calls Tryz.prog 141 #[.slice a n c,.int .i64 k] w fun e w'=>e=.returned (.int .i64 (xz n k))/\w'=w:=by
 have b:Hid (∀w',Calls Tryz.prog 159 #[.slice a n c,.int .i64 k] w' fun e f=>e=.returned (.bool (decide (0<=k/\k<(n:Int))))/\f=w'):=fun w'=>zh6 a n c k w'
 by_cases h:0<=k/\k<(n:Int)
 ·have d:Hid (xz n k=0):=by simp only[Hid,xz,if_pos h]
  rw[zoY h]at b;clear h;go_enter Tryz.func141,Tryz.ntmps141
  go_wp2_with fail
  refine(b.out _).mono ?_;rintro e g ⟨rfl,rfl⟩;clear b;go_wp2;go_ret;exact⟨by rw[d.out];rfl,rfl⟩
 ·have d:Hid (xz n k=1):=by simp only[Hid,xz,if_neg h]
  rw[zoX h]at b;clear h;go_enter Tryz.func141,Tryz.ntmps141
  go_wp2_with fail
  refine(b.out _).mono ?_;rintro e g ⟨rfl,rfl⟩;clear b;go_wp2;go_ret;exact⟨by rw[d.out];rfl,rfl⟩
theorem zg2(x:Int)(w:World):Calls Tryz.prog 85 #[.int .i64 x] w fun e w'=>e=.returned (.int .i64 (xC x))/\w'=w:=by
 by_cases h:x<1
 ·have a:Hid (xC x=6):=by simp only[Hid,xC,if_pos (show x<1\/48<x from .inl h)]
  have d:=zoY h;go_enter Tryz.func85,Tryz.ntmps85
  go_wp2;go_ret;exact⟨by rw[a.out];rfl,rfl⟩
 have d:=zoX h;by_cases b:48<x
 ·have a:Hid (xC x=6):=by simp only[Hid,xC,if_pos (show x<1\/48<x from .inr b)]
  have c:=zoY b;go_enter Tryz.func85,Tryz.ntmps85
  go_wp2;go_ret;exact⟨by rw[a.out];rfl,rfl⟩
 ·have a:Hid (xC x=0):=by simp only[Hid,xC,if_neg (show¬(x<1\/48<x)by omega)]
  have c:=zoX b;go_enter Tryz.func85,Tryz.ntmps85
  go_wp2;go_ret;exact⟨by rw[a.out];rfl,rfl⟩
theorem zbM(d:PlanD)(r:RefD)(c:Option Addr)(an g:Nat)(zs:List Int)(w:World)(i:d.lie w)(hz:Has .i64 w c an zs):
 Calls Tryz.prog 87 #[d.v,.agg #[.int .i64 r.h,.int .i64 r.f],.slice c an g] w fun e w'=>e=.returned (.bool (d.p.width r zs !=0))/\Below w.heap.size w w':=by
 have a:∀o b,Below w.heap.size w ((w.alloc o).alloc b):=fun o b=>ze (ze (zof _ _))
 have k:Hid (∀o b,Calls Tryz.prog 129 #[d.v,.agg #[.int .i64 r.h,.int .i64 r.f],.slice c an g] ((w.alloc o).alloc b) fun e w'=>e=.returned (.int .i64 (d.p.width r zs))/\Below ((w.alloc o).alloc b).heap.size ((w.alloc o).alloc b) w'):=fun o b=>by
  rw[<-qD i];exact zaw d r.h r.f c an g zs _ (i.step (a o b)) (hz.step (a o b))
 have j:=hid a;clear i hz a;go_enter Tryz.func87,Tryz.ntmps87
 go_wp2_with fail
 refine(k.out _ _).mono ?_;rintro e m ⟨rfl,hb⟩;have l:=hid (zh (j.out _ _) hb);clear k j hb;go_wp2;go_ret;exact⟨rfl,l.out⟩
theorem zf1(d:PlanD)(r:RefD)(w:World)(m:d.lie w):
 Calls Tryz.prog 132 #[d.v,.agg #[.int .i64 r.h,.int .i64 r.f]] w fun e w'=>e=.returned (.int .i64 (zR d.p r))/\Below w.heap.size w w':=by
 have a:∀o b,Below w.heap.size w ((w.alloc o).alloc b):=fun o b=>ze (ze (zof _ _))
 have g:Hid (∀o b,Calls Tryz.prog 87 #[d.v,.agg #[.int .i64 r.h,.int .i64 r.f],.slice none 0 0] ((w.alloc o).alloc b) fun e w'=>e=.returned (.bool (d.p.width r [] !=0))/\Below ((w.alloc o).alloc b).heap.size ((w.alloc o).alloc b) w'):=fun o b=>zbM d r none 0 0 [] _ (m.step (a o b)) (zW _ _)
 clear m;by_cases c:r.h= -3
 ·have k:Hid (zR d.p r=1):=by simp only[Hid,zR,if_pos (show r.h= -3\/d.p.width r []=0 from .inl c)]
  have q:(r.h== -3)=true:=by simpa using c
  clear g c;go_enter Tryz.func132,Tryz.ntmps132
  go_wp2;go_ret;exact⟨by rw[k.out];rfl,a _ _⟩
 have q:(r.h== -3)=false:=by simpa using c
 by_cases i:d.p.width r []=0
 ·have k:Hid (zR d.p r=1):=by simp only[Hid,zR,if_pos (show r.h= -3\/d.p.width r []=0 from .inr i)]
  rw[i]at g;have j:=hid a;clear i c a;go_enter Tryz.func132,Tryz.ntmps132
  go_wp2_with fail
  refine(g.out _ _).mono ?_;rintro e s ⟨rfl,hb⟩;have l:=hid (zh (j.out _ _) hb);clear g j hb;go_wp2;go_ret;exact⟨by rw[k.out];rfl,l.out⟩
 ·have k:Hid (zR d.p r=0):=by simp only[Hid,zR,if_neg (show¬(r.h= -3\/d.p.width r []=0)from fun h=>h.elim c i)]
  have n:(d.p.width r [] !=0)=true:=by simpa using i
  rw[n]at g;have j:=hid a;clear i c a n;go_enter Tryz.func132,Tryz.ntmps132
  go_wp2_with fail
  refine(g.out _ _).mono ?_;rintro e s ⟨rfl,hb⟩;have l:=hid (zh (j.out _ _) hb);clear g j hb;go_wp2;go_ret;exact⟨by rw[k.out];rfl,l.out⟩
end Go.Proofs.YtbmcgbmegcpgnaaGreat
