import Derived.Test.YtdajaaondlekfaaGreatG2
set_option maxHeartbeats 4000000
set_option maxRecDepth 20000
set_option linter.unusedSimpArgs false
namespace Go.Proofs.YtdajaaondlekfaaGreat
open Go.RowKit
theorem zjq(op:Int):op=1\/op=2\/op=3\/op=4\/op=5\/op=6\/op=7\/op=8\/op=9\/op=10\/op=11\/op=12\/op=13\/op=14\/op=15\/op=16\/op=17\/op=18\/(op≠1/\op≠2/\op≠3/\op≠4/\op≠5/\op≠6/\op≠7/\op≠8/\op≠9/\op≠10/\op≠11/\op≠12/\op≠13/\op≠14/\op≠15/\op≠16/\op≠17/\op≠18):=by omega
theorem zct(op:Int):zQ op=17\/zQ op=3\/zQ op=7\/zQ op=1\/zQ op=23\/zQ op=25\/zQ op=11\/zQ op=8\/zQ op=5\/zQ op=0:=by
 unfold zQ;repeat' split
 all_goals simp
theorem kq(op:Int)(w:World):Calls Tryz.prog 126 #[.int .i64 op] w fun e w'=>e=.returned (.int .i64 (zQ op))/\w'=w:=by
 rcases zjq op with rfl|rfl|rfl|rfl|rfl|rfl|rfl|rfl|rfl|rfl|rfl|rfl|rfl|rfl|rfl|rfl|rfl|rfl|⟨q,h2,l,n,o,k,h7,m,r,i,j,h,g,d,f,c,b,a⟩
 all_goals first
  |(have e:zQ op=0:=by
     unfold zQ;rw[if_neg (by omega),if_neg (by omega),if_neg (by omega),if_neg (by omega),if_neg (by omega),if_neg (by omega),if_neg (by omega),if_neg (by omega),if_neg (by omega)]
    rw[e];clear e;go_enter Tryz.func126,Tryz.ntmps126
    go_wp2;go_ret;exact⟨rfl,rfl⟩)
  |(go_enter Tryz.func126,Tryz.ntmps126
    go_wp2;go_ret;exact⟨rfl,rfl⟩)
theorem zlk(op r s k to n:Int)(hf:zQ op=17)(w:World):Calls Tryz.prog 162 #[InsD.v ⟨op,r,s,k,to,n⟩] w (zw (zr ⟨op,r,s,k,to,n⟩) w):=by
 have f:=hid (fun n w=>kq n w)
 have d:=hid hf;by_cases hs:s=0
 rotate_left
 ·have b:zr ⟨op,r,s,k,to,n⟩=false:=by simp[zr,xd,xe,xg,ym,xi,hf,hs]
  have j:(s==0)=false:=by simpa using hs
  clear hf hs;have g:Hid (∀o,zw (zr ⟨op,r,s,k,to,n⟩) w (.returned (.bool false)) (w.alloc o)):=fun o=>⟨by rw[b],ze (zof _ _)⟩
  clear b;go_enter Tryz.func162,Tryz.ntmps162
  go_wp2_with fail
  refine(f.out _ _).mono ?_;rintro e i ⟨rfl,rfl⟩;rw[d.out];clear d f;go_wp2;go_ret;exact g.out _
 by_cases c:k=0
 rotate_left
 ·have b:zr ⟨op,r,s,k,to,n⟩=false:=by simp[zr,xd,xe,xg,ym,xi,hf,hs,c]
  have j:(s==0)=true:=by simpa using hs
  have l:(k==0)=false:=by simpa using c
  clear hf hs c;have g:Hid (∀o,zw (zr ⟨op,r,s,k,to,n⟩) w (.returned (.bool false)) (w.alloc o)):=fun o=>⟨by rw[b],ze (zof _ _)⟩
  clear b;go_enter Tryz.func162,Tryz.ntmps162
  go_wp2_with fail
  refine(f.out _ _).mono ?_;rintro e i ⟨rfl,rfl⟩;rw[d.out];clear d f;go_wp2;go_ret;exact g.out _
 by_cases a:to=0
 rotate_left
 ·have b:zr ⟨op,r,s,k,to,n⟩=false:=by simp[zr,xd,xe,xg,ym,xi,hf,hs,c,a]
  have j:(s==0)=true:=by simpa using hs
  have l:(k==0)=true:=by simpa using c
  have h:(to==0)=false:=by simpa using a
  clear hf hs c a;have g:Hid (∀o,zw (zr ⟨op,r,s,k,to,n⟩) w (.returned (.bool false)) (w.alloc o)):=fun o=>⟨by rw[b],ze (zof _ _)⟩
  clear b;go_enter Tryz.func162,Tryz.ntmps162
  go_wp2_with fail
  refine(f.out _ _).mono ?_;rintro e i ⟨rfl,rfl⟩;rw[d.out];clear d f;go_wp2;go_ret;exact g.out _
 have b:zr ⟨op,r,s,k,to,n⟩=true:=by simp[zr,xd,xe,xg,ym,xi,hf,hs,c,a]
 have j:(s==0)=true:=by simpa using hs
 have l:(k==0)=true:=by simpa using c
 have h:(to==0)=true:=by simpa using a
 clear hf hs c a;have g:Hid (∀o,zw (zr ⟨op,r,s,k,to,n⟩) w (.returned (.bool true)) (w.alloc o)):=fun o=>⟨by rw[b],ze (zof _ _)⟩
 clear b;go_enter Tryz.func162,Tryz.ntmps162
 go_wp2_with fail
 refine(f.out _ _).mono ?_;rintro e i ⟨rfl,rfl⟩;rw[d.out];clear d f;go_wp2;go_ret;exact g.out _
theorem zmI(op r s k to n:Int)(hf:zQ op=3)(w:World):Calls Tryz.prog 162 #[InsD.v ⟨op,r,s,k,to,n⟩] w (zw (zr ⟨op,r,s,k,to,n⟩) w):=by
 have f:=hid (fun n w=>kq n w)
 have d:=hid hf;by_cases b:k=0
 rotate_left
 ·have c:zr ⟨op,r,s,k,to,n⟩=false:=by simp[zr,xd,xe,xg,ym,xi,hf,b]
  have j:(k==0)=false:=by simpa using b
  clear hf b;have g:Hid (∀o,zw (zr ⟨op,r,s,k,to,n⟩) w (.returned (.bool false)) (w.alloc o)):=fun o=>⟨by rw[c],ze (zof _ _)⟩
  clear c;go_enter Tryz.func162,Tryz.ntmps162
  go_wp2_with fail
  refine(f.out _ _).mono ?_;rintro e l ⟨rfl,rfl⟩;rw[d.out];clear d f;go_wp2;go_ret;exact g.out _
 by_cases a:to=0
 rotate_left
 ·have c:zr ⟨op,r,s,k,to,n⟩=false:=by simp[zr,xd,xe,xg,ym,xi,hf,b,a]
  have j:(k==0)=true:=by simpa using b
  have i:(to==0)=false:=by simpa using a
  clear hf b a;have g:Hid (∀o,zw (zr ⟨op,r,s,k,to,n⟩) w (.returned (.bool false)) (w.alloc o)):=fun o=>⟨by rw[c],ze (zof _ _)⟩
  clear c;go_enter Tryz.func162,Tryz.ntmps162
  go_wp2_with fail
  refine(f.out _ _).mono ?_;rintro e l ⟨rfl,rfl⟩;rw[d.out];clear d f;go_wp2;go_ret;exact g.out _
 by_cases h:n=0
 rotate_left
 ·have c:zr ⟨op,r,s,k,to,n⟩=false:=by simp[zr,xd,xe,xg,ym,xi,hf,b,a,h]
  have j:(k==0)=true:=by simpa using b
  have i:(to==0)=true:=by simpa using a
  have m:(n==0)=false:=by simpa using h
  clear hf b a h;have g:Hid (∀o,zw (zr ⟨op,r,s,k,to,n⟩) w (.returned (.bool false)) (w.alloc o)):=fun o=>⟨by rw[c],ze (zof _ _)⟩
  clear c;go_enter Tryz.func162,Tryz.ntmps162
  go_wp2_with fail
  refine(f.out _ _).mono ?_;rintro e l ⟨rfl,rfl⟩;rw[d.out];clear d f;go_wp2;go_ret;exact g.out _
 have c:zr ⟨op,r,s,k,to,n⟩=true:=by simp[zr,xd,xe,xg,ym,xi,hf,b,a,h]
 have j:(k==0)=true:=by simpa using b
 have i:(to==0)=true:=by simpa using a
 have m:(n==0)=true:=by simpa using h
 clear hf b a h;have g:Hid (∀o,zw (zr ⟨op,r,s,k,to,n⟩) w (.returned (.bool true)) (w.alloc o)):=fun o=>⟨by rw[c],ze (zof _ _)⟩
 clear c;go_enter Tryz.func162,Tryz.ntmps162
 go_wp2_with fail
 refine(f.out _ _).mono ?_;rintro e l ⟨rfl,rfl⟩;rw[d.out];clear d f;go_wp2;go_ret;exact g.out _
theorem zmJ(op r s k to n:Int)(hf:zQ op=7)(w:World):Calls Tryz.prog 162 #[InsD.v ⟨op,r,s,k,to,n⟩] w (zw (zr ⟨op,r,s,k,to,n⟩) w):=by
 have f:=hid (fun n w=>kq n w)
 have c:=hid hf;by_cases a:to=0
 rotate_left
 ·have b:zr ⟨op,r,s,k,to,n⟩=false:=by simp[zr,xd,xe,xg,ym,xi,hf,a]
  have g:(to==0)=false:=by simpa using a
  clear hf a;have h:Hid (∀o,zw (zr ⟨op,r,s,k,to,n⟩) w (.returned (.bool false)) (w.alloc o)):=fun o=>⟨by rw[b],ze (zof _ _)⟩
  clear b;go_enter Tryz.func162,Tryz.ntmps162
  go_wp2_with fail
  refine(f.out _ _).mono ?_;rintro e i ⟨rfl,rfl⟩;rw[c.out];clear c f;go_wp2;go_ret;exact h.out _
 by_cases d:n=0
 rotate_left
 ·have b:zr ⟨op,r,s,k,to,n⟩=false:=by simp[zr,xd,xe,xg,ym,xi,hf,a,d]
  have g:(to==0)=true:=by simpa using a
  have j:(n==0)=false:=by simpa using d
  clear hf a d;have h:Hid (∀o,zw (zr ⟨op,r,s,k,to,n⟩) w (.returned (.bool false)) (w.alloc o)):=fun o=>⟨by rw[b],ze (zof _ _)⟩
  clear b;go_enter Tryz.func162,Tryz.ntmps162
  go_wp2_with fail
  refine(f.out _ _).mono ?_;rintro e i ⟨rfl,rfl⟩;rw[c.out];clear c f;go_wp2;go_ret;exact h.out _
 have b:zr ⟨op,r,s,k,to,n⟩=true:=by simp[zr,xd,xe,xg,ym,xi,hf,a,d]
 have g:(to==0)=true:=by simpa using a
 have j:(n==0)=true:=by simpa using d
 clear hf a d;have h:Hid (∀o,zw (zr ⟨op,r,s,k,to,n⟩) w (.returned (.bool true)) (w.alloc o)):=fun o=>⟨by rw[b],ze (zof _ _)⟩
 clear b;go_enter Tryz.func162,Tryz.ntmps162
 go_wp2_with fail
 refine(f.out _ _).mono ?_;rintro e i ⟨rfl,rfl⟩;rw[c.out];clear c f;go_wp2;go_ret;exact h.out _
theorem zmK(op r s k to n:Int)(hf:zQ op=1)(w:World):Calls Tryz.prog 162 #[InsD.v ⟨op,r,s,k,to,n⟩] w (zw (zr ⟨op,r,s,k,to,n⟩) w):=by
 have f:=hid (fun n w=>kq n w)
 have d:=hid hf;by_cases hs:s=0
 rotate_left
 ·have b:zr ⟨op,r,s,k,to,n⟩=false:=by simp[zr,xd,xe,xg,ym,xi,hf,hs]
  have l:(s==0)=false:=by simpa using hs
  clear hf hs;have g:Hid (∀o,zw (zr ⟨op,r,s,k,to,n⟩) w (.returned (.bool false)) (w.alloc o)):=fun o=>⟨by rw[b],ze (zof _ _)⟩
  clear b;go_enter Tryz.func162,Tryz.ntmps162
  go_wp2_with fail
  refine(f.out _ _).mono ?_;rintro e j ⟨rfl,rfl⟩;rw[d.out];clear d f;go_wp2;go_ret;exact g.out _
 by_cases c:k=0
 rotate_left
 ·have b:zr ⟨op,r,s,k,to,n⟩=false:=by simp[zr,xd,xe,xg,ym,xi,hf,hs,c]
  have l:(s==0)=true:=by simpa using hs
  have m:(k==0)=false:=by simpa using c
  clear hf hs c;have g:Hid (∀o,zw (zr ⟨op,r,s,k,to,n⟩) w (.returned (.bool false)) (w.alloc o)):=fun o=>⟨by rw[b],ze (zof _ _)⟩
  clear b;go_enter Tryz.func162,Tryz.ntmps162
  go_wp2_with fail
  refine(f.out _ _).mono ?_;rintro e j ⟨rfl,rfl⟩;rw[d.out];clear d f;go_wp2;go_ret;exact g.out _
 by_cases a:to=0
 rotate_left
 ·have b:zr ⟨op,r,s,k,to,n⟩=false:=by simp[zr,xd,xe,xg,ym,xi,hf,hs,c,a]
  have l:(s==0)=true:=by simpa using hs
  have m:(k==0)=true:=by simpa using c
  have i:(to==0)=false:=by simpa using a
  clear hf hs c a;have g:Hid (∀o,zw (zr ⟨op,r,s,k,to,n⟩) w (.returned (.bool false)) (w.alloc o)):=fun o=>⟨by rw[b],ze (zof _ _)⟩
  clear b;go_enter Tryz.func162,Tryz.ntmps162
  go_wp2_with fail
  refine(f.out _ _).mono ?_;rintro e j ⟨rfl,rfl⟩;rw[d.out];clear d f;go_wp2;go_ret;exact g.out _
 by_cases h:n=0
 rotate_left
 ·have b:zr ⟨op,r,s,k,to,n⟩=false:=by simp[zr,xd,xe,xg,ym,xi,hf,hs,c,a,h]
  have l:(s==0)=true:=by simpa using hs
  have m:(k==0)=true:=by simpa using c
  have i:(to==0)=true:=by simpa using a
  have q:(n==0)=false:=by simpa using h
  clear hf hs c a h;have g:Hid (∀o,zw (zr ⟨op,r,s,k,to,n⟩) w (.returned (.bool false)) (w.alloc o)):=fun o=>⟨by rw[b],ze (zof _ _)⟩
  clear b;go_enter Tryz.func162,Tryz.ntmps162
  go_wp2_with fail
  refine(f.out _ _).mono ?_;rintro e j ⟨rfl,rfl⟩;rw[d.out];clear d f;go_wp2;go_ret;exact g.out _
 have b:zr ⟨op,r,s,k,to,n⟩=true:=by simp[zr,xd,xe,xg,ym,xi,hf,hs,c,a,h]
 have l:(s==0)=true:=by simpa using hs
 have m:(k==0)=true:=by simpa using c
 have i:(to==0)=true:=by simpa using a
 have q:(n==0)=true:=by simpa using h
 clear hf hs c a h;have g:Hid (∀o,zw (zr ⟨op,r,s,k,to,n⟩) w (.returned (.bool true)) (w.alloc o)):=fun o=>⟨by rw[b],ze (zof _ _)⟩
 clear b;go_enter Tryz.func162,Tryz.ntmps162
 go_wp2_with fail
 refine(f.out _ _).mono ?_;rintro e j ⟨rfl,rfl⟩;rw[d.out];clear d f;go_wp2;go_ret;exact g.out _
theorem zll(op r s k to n:Int)(hf:zQ op=23)(w:World):Calls Tryz.prog 162 #[InsD.v ⟨op,r,s,k,to,n⟩] w (zw (zr ⟨op,r,s,k,to,n⟩) w):=by
 have d:=hid (fun n w=>kq n w)
 have c:=hid hf;by_cases a:to=0
 rotate_left
 ·have b:zr ⟨op,r,s,k,to,n⟩=false:=by simp[zr,xd,xe,xg,ym,xi,hf,a]
  have f:(to==0)=false:=by simpa using a
  clear hf a;have g:Hid (∀o,zw (zr ⟨op,r,s,k,to,n⟩) w (.returned (.bool false)) (w.alloc o)):=fun o=>⟨by rw[b],ze (zof _ _)⟩
  clear b;go_enter Tryz.func162,Tryz.ntmps162
  go_wp2_with fail
  refine(d.out _ _).mono ?_;rintro e h ⟨rfl,rfl⟩;rw[c.out];clear c d;go_wp2;go_ret;exact g.out _
 have b:zr ⟨op,r,s,k,to,n⟩=true:=by simp[zr,xd,xe,xg,ym,xi,hf,a]
 have f:(to==0)=true:=by simpa using a
 clear hf a;have g:Hid (∀o,zw (zr ⟨op,r,s,k,to,n⟩) w (.returned (.bool true)) (w.alloc o)):=fun o=>⟨by rw[b],ze (zof _ _)⟩
 clear b;go_enter Tryz.func162,Tryz.ntmps162
 go_wp2_with fail
 refine(d.out _ _).mono ?_;rintro e h ⟨rfl,rfl⟩;rw[c.out];clear c d;go_wp2;go_ret;exact g.out _
theorem zlm(op r s k to n:Int)(hf:zQ op=25)(w:World):Calls Tryz.prog 162 #[InsD.v ⟨op,r,s,k,to,n⟩] w (zw (zr ⟨op,r,s,k,to,n⟩) w):=by
 have d:=hid (fun n w=>kq n w)
 have c:=hid hf;by_cases hs:s=0
 rotate_left
 ·have a:zr ⟨op,r,s,k,to,n⟩=false:=by simp[zr,xd,xe,xg,ym,xi,hf,hs]
  have h:(s==0)=false:=by simpa using hs
  clear hf hs;have f:Hid (∀o,zw (zr ⟨op,r,s,k,to,n⟩) w (.returned (.bool false)) (w.alloc o)):=fun o=>⟨by rw[a],ze (zof _ _)⟩
  clear a;go_enter Tryz.func162,Tryz.ntmps162
  go_wp2_with fail
  refine(d.out _ _).mono ?_;rintro e g ⟨rfl,rfl⟩;rw[c.out];clear c d;go_wp2;go_ret;exact f.out _
 by_cases b:k=0
 rotate_left
 ·have a:zr ⟨op,r,s,k,to,n⟩=false:=by simp[zr,xd,xe,xg,ym,xi,hf,hs,b]
  have h:(s==0)=true:=by simpa using hs
  have i:(k==0)=false:=by simpa using b
  clear hf hs b;have f:Hid (∀o,zw (zr ⟨op,r,s,k,to,n⟩) w (.returned (.bool false)) (w.alloc o)):=fun o=>⟨by rw[a],ze (zof _ _)⟩
  clear a;go_enter Tryz.func162,Tryz.ntmps162
  go_wp2_with fail
  refine(d.out _ _).mono ?_;rintro e g ⟨rfl,rfl⟩;rw[c.out];clear c d;go_wp2;go_ret;exact f.out _
 have a:zr ⟨op,r,s,k,to,n⟩=true:=by simp[zr,xd,xe,xg,ym,xi,hf,hs,b]
 have h:(s==0)=true:=by simpa using hs
 have i:(k==0)=true:=by simpa using b
 clear hf hs b;have f:Hid (∀o,zw (zr ⟨op,r,s,k,to,n⟩) w (.returned (.bool true)) (w.alloc o)):=fun o=>⟨by rw[a],ze (zof _ _)⟩
 clear a;go_enter Tryz.func162,Tryz.ntmps162
 go_wp2_with fail
 refine(d.out _ _).mono ?_;rintro e g ⟨rfl,rfl⟩;rw[c.out];clear c d;go_wp2;go_ret;exact f.out _
theorem zln(op r s k to n:Int)(hf:zQ op=11)(w:World):Calls Tryz.prog 162 #[InsD.v ⟨op,r,s,k,to,n⟩] w (zw (zr ⟨op,r,s,k,to,n⟩) w):=by
 have f:=hid (fun n w=>kq n w)
 have c:=hid hf;by_cases a:k=0
 rotate_left
 ·have b:zr ⟨op,r,s,k,to,n⟩=false:=by simp[zr,xd,xe,xg,ym,xi,hf,a]
  have h:(k==0)=false:=by simpa using a
  clear hf a;have g:Hid (∀o,zw (zr ⟨op,r,s,k,to,n⟩) w (.returned (.bool false)) (w.alloc o)):=fun o=>⟨by rw[b],ze (zof _ _)⟩
  clear b;go_enter Tryz.func162,Tryz.ntmps162
  go_wp2_with fail
  refine(f.out _ _).mono ?_;rintro e i ⟨rfl,rfl⟩;rw[c.out];clear c f;go_wp2;go_ret;exact g.out _
 by_cases d:n=0
 rotate_left
 ·have b:zr ⟨op,r,s,k,to,n⟩=false:=by simp[zr,xd,xe,xg,ym,xi,hf,a,d]
  have h:(k==0)=true:=by simpa using a
  have j:(n==0)=false:=by simpa using d
  clear hf a d;have g:Hid (∀o,zw (zr ⟨op,r,s,k,to,n⟩) w (.returned (.bool false)) (w.alloc o)):=fun o=>⟨by rw[b],ze (zof _ _)⟩
  clear b;go_enter Tryz.func162,Tryz.ntmps162
  go_wp2_with fail
  refine(f.out _ _).mono ?_;rintro e i ⟨rfl,rfl⟩;rw[c.out];clear c f;go_wp2;go_ret;exact g.out _
 have b:zr ⟨op,r,s,k,to,n⟩=true:=by simp[zr,xd,xe,xg,ym,xi,hf,a,d]
 have h:(k==0)=true:=by simpa using a
 have j:(n==0)=true:=by simpa using d
 clear hf a d;have g:Hid (∀o,zw (zr ⟨op,r,s,k,to,n⟩) w (.returned (.bool true)) (w.alloc o)):=fun o=>⟨by rw[b],ze (zof _ _)⟩
 clear b;go_enter Tryz.func162,Tryz.ntmps162
 go_wp2_with fail
 refine(f.out _ _).mono ?_;rintro e i ⟨rfl,rfl⟩;rw[c.out];clear c f;go_wp2;go_ret;exact g.out _
theorem zmL(op r s k to n:Int)(hf:zQ op=8)(w:World):Calls Tryz.prog 162 #[InsD.v ⟨op,r,s,k,to,n⟩] w (zw (zr ⟨op,r,s,k,to,n⟩) w):=by
 have c:=hid (fun n w=>kq n w)
 have b:=hid hf;by_cases hr:r=0
 rotate_left
 ·have a:zr ⟨op,r,s,k,to,n⟩=false:=by simp[zr,xd,xe,xg,ym,xi,hf,hr]
  have i:(r==0)=false:=by simpa using hr
  clear hf hr;have f:Hid (∀o,zw (zr ⟨op,r,s,k,to,n⟩) w (.returned (.bool false)) (w.alloc o)):=fun o=>⟨by rw[a],ze (zof _ _)⟩
  clear a;go_enter Tryz.func162,Tryz.ntmps162
  go_wp2_with fail
  refine(c.out _ _).mono ?_;rintro e h ⟨rfl,rfl⟩;rw[b.out];clear b c;go_wp2;go_ret;exact f.out _
 by_cases hs:s=0
 rotate_left
 ·have a:zr ⟨op,r,s,k,to,n⟩=false:=by simp[zr,xd,xe,xg,ym,xi,hf,hr,hs]
  have i:(r==0)=true:=by simpa using hr
  have j:(s==0)=false:=by simpa using hs
  clear hf hr hs;have f:Hid (∀o,zw (zr ⟨op,r,s,k,to,n⟩) w (.returned (.bool false)) (w.alloc o)):=fun o=>⟨by rw[a],ze (zof _ _)⟩
  clear a;go_enter Tryz.func162,Tryz.ntmps162
  go_wp2_with fail
  refine(c.out _ _).mono ?_;rintro e h ⟨rfl,rfl⟩;rw[b.out];clear b c;go_wp2;go_ret;exact f.out _
 by_cases d:k=0
 rotate_left
 ·have a:zr ⟨op,r,s,k,to,n⟩=false:=by simp[zr,xd,xe,xg,ym,xi,hf,hr,hs,d]
  have i:(r==0)=true:=by simpa using hr
  have j:(s==0)=true:=by simpa using hs
  have l:(k==0)=false:=by simpa using d
  clear hf hr hs d;have f:Hid (∀o,zw (zr ⟨op,r,s,k,to,n⟩) w (.returned (.bool false)) (w.alloc o)):=fun o=>⟨by rw[a],ze (zof _ _)⟩
  clear a;go_enter Tryz.func162,Tryz.ntmps162
  go_wp2_with fail
  refine(c.out _ _).mono ?_;rintro e h ⟨rfl,rfl⟩;rw[b.out];clear b c;go_wp2;go_ret;exact f.out _
 by_cases g:n=0
 rotate_left
 ·have a:zr ⟨op,r,s,k,to,n⟩=false:=by simp[zr,xd,xe,xg,ym,xi,hf,hr,hs,d,g]
  have i:(r==0)=true:=by simpa using hr
  have j:(s==0)=true:=by simpa using hs
  have l:(k==0)=true:=by simpa using d
  have m:(n==0)=false:=by simpa using g
  clear hf hr hs d g;have f:Hid (∀o,zw (zr ⟨op,r,s,k,to,n⟩) w (.returned (.bool false)) (w.alloc o)):=fun o=>⟨by rw[a],ze (zof _ _)⟩
  clear a;go_enter Tryz.func162,Tryz.ntmps162
  go_wp2_with fail
  refine(c.out _ _).mono ?_;rintro e h ⟨rfl,rfl⟩;rw[b.out];clear b c;go_wp2;go_ret;exact f.out _
 have a:zr ⟨op,r,s,k,to,n⟩=true:=by simp[zr,xd,xe,xg,ym,xi,hf,hr,hs,d,g]
 have i:(r==0)=true:=by simpa using hr
 have j:(s==0)=true:=by simpa using hs
 have l:(k==0)=true:=by simpa using d
 have m:(n==0)=true:=by simpa using g
 clear hf hr hs d g;have f:Hid (∀o,zw (zr ⟨op,r,s,k,to,n⟩) w (.returned (.bool true)) (w.alloc o)):=fun o=>⟨by rw[a],ze (zof _ _)⟩
 clear a;go_enter Tryz.func162,Tryz.ntmps162
 go_wp2_with fail
 refine(c.out _ _).mono ?_;rintro e h ⟨rfl,rfl⟩;rw[b.out];clear b c;go_wp2;go_ret;exact f.out _
theorem zmM(op r s k to n:Int)(hf:zQ op=5)(w:World):Calls Tryz.prog 162 #[InsD.v ⟨op,r,s,k,to,n⟩] w (zw (zr ⟨op,r,s,k,to,n⟩) w):=by
 have d:=hid (fun n w=>kq n w)
 have c:=hid hf;by_cases hs:s=0
 rotate_left
 ·have b:zr ⟨op,r,s,k,to,n⟩=false:=by simp[zr,xd,xe,xg,ym,xi,hf,hs]
  have j:(s==0)=false:=by simpa using hs
  clear hf hs;have f:Hid (∀o,zw (zr ⟨op,r,s,k,to,n⟩) w (.returned (.bool false)) (w.alloc o)):=fun o=>⟨by rw[b],ze (zof _ _)⟩
  clear b;go_enter Tryz.func162,Tryz.ntmps162
  go_wp2_with fail
  refine(d.out _ _).mono ?_;rintro e i ⟨rfl,rfl⟩;rw[c.out];clear c d;go_wp2;go_ret;exact f.out _
 by_cases a:to=0
 rotate_left
 ·have b:zr ⟨op,r,s,k,to,n⟩=false:=by simp[zr,xd,xe,xg,ym,xi,hf,hs,a]
  have j:(s==0)=true:=by simpa using hs
  have h:(to==0)=false:=by simpa using a
  clear hf hs a;have f:Hid (∀o,zw (zr ⟨op,r,s,k,to,n⟩) w (.returned (.bool false)) (w.alloc o)):=fun o=>⟨by rw[b],ze (zof _ _)⟩
  clear b;go_enter Tryz.func162,Tryz.ntmps162
  go_wp2_with fail
  refine(d.out _ _).mono ?_;rintro e i ⟨rfl,rfl⟩;rw[c.out];clear c d;go_wp2;go_ret;exact f.out _
 by_cases g:n=0
 rotate_left
 ·have b:zr ⟨op,r,s,k,to,n⟩=false:=by simp[zr,xd,xe,xg,ym,xi,hf,hs,a,g]
  have j:(s==0)=true:=by simpa using hs
  have h:(to==0)=true:=by simpa using a
  have l:(n==0)=false:=by simpa using g
  clear hf hs a g;have f:Hid (∀o,zw (zr ⟨op,r,s,k,to,n⟩) w (.returned (.bool false)) (w.alloc o)):=fun o=>⟨by rw[b],ze (zof _ _)⟩
  clear b;go_enter Tryz.func162,Tryz.ntmps162
  go_wp2_with fail
  refine(d.out _ _).mono ?_;rintro e i ⟨rfl,rfl⟩;rw[c.out];clear c d;go_wp2;go_ret;exact f.out _
 have b:zr ⟨op,r,s,k,to,n⟩=true:=by simp[zr,xd,xe,xg,ym,xi,hf,hs,a,g]
 have j:(s==0)=true:=by simpa using hs
 have h:(to==0)=true:=by simpa using a
 have l:(n==0)=true:=by simpa using g
 clear hf hs a g;have f:Hid (∀o,zw (zr ⟨op,r,s,k,to,n⟩) w (.returned (.bool true)) (w.alloc o)):=fun o=>⟨by rw[b],ze (zof _ _)⟩
 clear b;go_enter Tryz.func162,Tryz.ntmps162
 go_wp2_with fail
 refine(d.out _ _).mono ?_;rintro e i ⟨rfl,rfl⟩;rw[c.out];clear c d;go_wp2;go_ret;exact f.out _
theorem zmN(op r s k to n:Int)(hf:zQ op=0)(w:World):Calls Tryz.prog 162 #[InsD.v ⟨op,r,s,k,to,n⟩] w (zw (zr ⟨op,r,s,k,to,n⟩) w):=by
 have f:=hid (fun n w=>kq n w)
 have d:=hid hf;by_cases hr:r=0
 rotate_left
 ·have b:zr ⟨op,r,s,k,to,n⟩=false:=by simp[zr,xd,xe,xg,ym,xi,hf,hr]
  have l:(r==0)=false:=by simpa using hr
  clear hf hr;have g:Hid (∀o,zw (zr ⟨op,r,s,k,to,n⟩) w (.returned (.bool false)) (w.alloc o)):=fun o=>⟨by rw[b],ze (zof _ _)⟩
  clear b;go_enter Tryz.func162,Tryz.ntmps162
  go_wp2_with fail
  refine(f.out _ _).mono ?_;rintro e j ⟨rfl,rfl⟩;rw[d.out];clear d f;go_wp2;go_ret;exact g.out _
 by_cases hs:s=0
 rotate_left
 ·have b:zr ⟨op,r,s,k,to,n⟩=false:=by simp[zr,xd,xe,xg,ym,xi,hf,hr,hs]
  have l:(r==0)=true:=by simpa using hr
  have m:(s==0)=false:=by simpa using hs
  clear hf hr hs;have g:Hid (∀o,zw (zr ⟨op,r,s,k,to,n⟩) w (.returned (.bool false)) (w.alloc o)):=fun o=>⟨by rw[b],ze (zof _ _)⟩
  clear b;go_enter Tryz.func162,Tryz.ntmps162
  go_wp2_with fail
  refine(f.out _ _).mono ?_;rintro e j ⟨rfl,rfl⟩;rw[d.out];clear d f;go_wp2;go_ret;exact g.out _
 by_cases c:k=0
 rotate_left
 ·have b:zr ⟨op,r,s,k,to,n⟩=false:=by simp[zr,xd,xe,xg,ym,xi,hf,hr,hs,c]
  have l:(r==0)=true:=by simpa using hr
  have m:(s==0)=true:=by simpa using hs
  have q:(k==0)=false:=by simpa using c
  clear hf hr hs c;have g:Hid (∀o,zw (zr ⟨op,r,s,k,to,n⟩) w (.returned (.bool false)) (w.alloc o)):=fun o=>⟨by rw[b],ze (zof _ _)⟩
  clear b;go_enter Tryz.func162,Tryz.ntmps162
  go_wp2_with fail
  refine(f.out _ _).mono ?_;rintro e j ⟨rfl,rfl⟩;rw[d.out];clear d f;go_wp2;go_ret;exact g.out _
 by_cases a:to=0
 rotate_left
 ·have b:zr ⟨op,r,s,k,to,n⟩=false:=by simp[zr,xd,xe,xg,ym,xi,hf,hr,hs,c,a]
  have l:(r==0)=true:=by simpa using hr
  have m:(s==0)=true:=by simpa using hs
  have q:(k==0)=true:=by simpa using c
  have i:(to==0)=false:=by simpa using a
  clear hf hr hs c a;have g:Hid (∀o,zw (zr ⟨op,r,s,k,to,n⟩) w (.returned (.bool false)) (w.alloc o)):=fun o=>⟨by rw[b],ze (zof _ _)⟩
  clear b;go_enter Tryz.func162,Tryz.ntmps162
  go_wp2_with fail
  refine(f.out _ _).mono ?_;rintro e j ⟨rfl,rfl⟩;rw[d.out];clear d f;go_wp2;go_ret;exact g.out _
 by_cases h:n=0
 rotate_left
 ·have b:zr ⟨op,r,s,k,to,n⟩=false:=by simp[zr,xd,xe,xg,ym,xi,hf,hr,hs,c,a,h]
  have l:(r==0)=true:=by simpa using hr
  have m:(s==0)=true:=by simpa using hs
  have q:(k==0)=true:=by simpa using c
  have i:(to==0)=true:=by simpa using a
  have t:(n==0)=false:=by simpa using h
  clear hf hr hs c a h;have g:Hid (∀o,zw (zr ⟨op,r,s,k,to,n⟩) w (.returned (.bool false)) (w.alloc o)):=fun o=>⟨by rw[b],ze (zof _ _)⟩
  clear b;go_enter Tryz.func162,Tryz.ntmps162
  go_wp2_with fail
  refine(f.out _ _).mono ?_;rintro e j ⟨rfl,rfl⟩;rw[d.out];clear d f;go_wp2;go_ret;exact g.out _
 have b:zr ⟨op,r,s,k,to,n⟩=true:=by simp[zr,xd,xe,xg,ym,xi,hf,hr,hs,c,a,h]
 have l:(r==0)=true:=by simpa using hr
 have m:(s==0)=true:=by simpa using hs
 have q:(k==0)=true:=by simpa using c
 have i:(to==0)=true:=by simpa using a
 have t:(n==0)=true:=by simpa using h
 clear hf hr hs c a h;have g:Hid (∀o,zw (zr ⟨op,r,s,k,to,n⟩) w (.returned (.bool true)) (w.alloc o)):=fun o=>⟨by rw[b],ze (zof _ _)⟩
 clear b;go_enter Tryz.func162,Tryz.ntmps162
 go_wp2_with fail
 refine(f.out _ _).mono ?_;rintro e j ⟨rfl,rfl⟩;rw[d.out];clear d f;go_wp2;go_ret;exact g.out _
theorem znm(x:InsD)(w:World):Calls Tryz.prog 162 #[x.v] w (zw (zr x) w):=by
 obtain⟨op,r,s,k,to,n⟩:=x;rcases zct op with h|h|h|h|h|h|h|h|h|h
 ·exact zlk op r s k to n h w
 ·exact zmI op r s k to n h w
 ·exact zmJ op r s k to n h w
 ·exact zmK op r s k to n h w
 ·exact zll op r s k to n h w
 ·exact zlm op r s k to n h w
 ·exact zln op r s k to n h w
 ·exact zmL op r s k to n h w
 ·exact zmM op r s k to n h w
 ·exact zmN op r s k to n h w
theorem znn(x:InsD)(w:World):Calls Tryz.prog 163 #[x.v] w (zw (zcu x) w):=by
 obtain⟨op,r,s,k,to,n⟩:=x;have b:=hid (fun n w=>zmQ n w)
 have a:Hid (∀o,zw (zcu ⟨op,r,s,k,to,n⟩) w (.returned (.bool (zcu ⟨op,r,s,k,to,n⟩))) (w.alloc o)):=fun o=>⟨rfl,ze (zof _ _)⟩
 unfold zcu at a ⊢;dsimp only[InsD.v]at a ⊢;generalize g:inB r 0 9=R at*;have c:=hid g;clear g;cases R
 ·rw[Bool.false_and]at a ⊢;go_enter Tryz.func163,Tryz.ntmps163
  go_wp2_with fail
  refine(b.out _ _).mono ?_;rintro e f ⟨rfl,rfl⟩;rw[c.out];go_wp2;go_ret;exact a.out _
 ·rw[Bool.true_and]at a ⊢;by_cases h:op=13
  ·subst h;rw[zoY rfl,Bool.true_or]at a ⊢;go_enter Tryz.func163,Tryz.ntmps163
   go_wp2_with fail
   refine(b.out _ _).mono ?_;rintro e f ⟨rfl,rfl⟩;rw[c.out];go_wp2;go_ret;exact a.out _
  ·have d:(op==13)=false:=by simpa using h
   rw[zoX h,Bool.false_or]at a ⊢;clear h;go_enter Tryz.func163,Tryz.ntmps163
   go_wp2_with fail
   refine(b.out _ _).mono ?_;rintro e f ⟨rfl,rfl⟩;rw[c.out];go_wp2_with fail
   refine(b.out _ _).mono ?_;rintro e f ⟨rfl,rfl⟩;go_wp2;go_ret;exact a.out _
theorem zno(x:InsD)(w:World):Calls Tryz.prog 124 #[x.v] w (zw (zaA x) w):=by
 have o:=hid (fun n a b w=>zar n a b w)
 have j:=hid (fun w=>znm x w)
 have m:=hid (fun w=>znn x w)
 have f:Hid (∀w',Below w.heap.size w w'->zw (zaA x) w (.returned (.bool (zaA x))) w'):=fun w' h=>⟨rfl,h⟩
 unfold zaA at f ⊢;obtain⟨op,r,s,k,to,n⟩:=x;dsimp only[InsD.v]at f j m ⊢;generalize E:inB op 1 18=A at*;generalize u:zr ⟨op,r,s,k,to,n⟩=B at*;generalize I:zcu ⟨op,r,s,k,to,n⟩=C at*;have t:=hid E;clear E u I;obtain⟨i,hW1⟩:∃i,i=w.alloc (.cells #[.int .i64 op,.int .i64 r,.int .i64 s,.int .i64 k,.int .i64 to,.int .u64 n] 126):=⟨_,rfl⟩;obtain⟨bx,hbx⟩:∃b,b=w.heap.size:=⟨_,rfl⟩;have D:Below w.heap.size w i:=by rw[hW1];exact ze (zof _ _)
 have HC:Hid (∀w',Below i.heap.size i w'->w'.cell? ⟨bx,0,none⟩=some (.int .i64 op)/\w'.cell? ⟨bx,1,none⟩=some (.int .i64 r)/\w'.cell? ⟨bx,2,none⟩=some (.int .i64 s)/\w'.cell? ⟨bx,3,none⟩=some (.int .i64 k)/\w'.cell? ⟨bx,4,none⟩=some (.int .i64 to)/\w'.cell? ⟨bx,5,none⟩=some (.int .u64 n)):=fun w' hb=>by
  rw[hbx];refine⟨za ?_ hb,za ?_ hb,za ?_ hb,za ?_ hb,za ?_ hb,za ?_ hb⟩<;>rw[hW1]<;>simp
 have y:=hid D;have F:=hid hW1;have H:=hid hbx;clear hW1 hbx D;cases A
 ·rw[Bool.false_and,Bool.false_and,Bool.false_and]at f ⊢;clear j m HC;go_enter Tryz.func124,Tryz.ntmps124
  go_wp2_with fail
  refine(o.out _ _ _ _).mono ?_;rintro e J ⟨rfl,rfl⟩;rw[t.out];go_wp2;go_ret;exact f.out _ (ze (zof _ _))
 ·rw[Bool.true_and]at f ⊢;go_enter Tryz.func124,Tryz.ntmps124
  go_wp2_with fail
  rw[<-F.out,<-H.out];refine(o.out _ _ _ _).mono ?_;rintro e J ⟨rfl,rfl⟩;rw[t.out];obtain⟨c0,c1,c2,c3,c4,c5⟩:=HC.out _ (zof _ _);clear t F H o;go_wp2_with fail
  refine(j.out _).mono ?_;rintro e K ⟨rfl,l⟩;obtain⟨c0,c1,c2,c3,c4,c5⟩:=HC.out _ l;have G:=hid (zh y.out l);have c:=hid (fun w' h=>f.out w' (zh G.out h))
  have g:=hid (fun w' h=>HC.out w' (zh l h))
  clear l f HC j y G;cases B
  ·rw[Bool.false_and,Bool.false_and]at c ⊢;go_wp2;go_ret;exact c.out _ (zof _ _)
  ·rw[Bool.true_and]at c ⊢;go_wp2_with fail
   refine(m.out _).mono ?_;rintro e L ⟨rfl,q⟩;obtain⟨c0,c1,c2,c3,c4,c5⟩:=g.out _ q;have d:=hid (c.out _ q);clear q c g m;cases C
   ·rw[Bool.false_and]at d ⊢;go_wp2;go_ret;exact d.out
   ·rw[Bool.true_and]at d ⊢;go_wp2;go_ret;exact d.out
end Go.Proofs.YtdajaaondlekfaaGreat
