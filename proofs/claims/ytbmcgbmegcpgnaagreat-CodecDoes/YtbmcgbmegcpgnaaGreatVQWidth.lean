import Derived.Test.YtbmcgbmegcpgnaaGreatG0
set_option maxHeartbeats 1000000
set_option maxRecDepth 20000
set_option linter.unusedSimpArgs false
namespace Go.Proofs.YtbmcgbmegcpgnaaGreat
open Go.RowKit
def zE(d:PlanD)(h:Int)(zs:List Int):List Int:=
 if h= -1 then d.ms else if h= -2 then zs else if h= -3 then[16]else if h<0\/(d.heads.n:Int)<=h then[]else(d.hs.getD h.toNat HeadD.z).ws
def yU(d:PlanD)(h f:Int)(zs:List Int):Int:=
 if f<0\/((zE d h zs).length:Int)<=f then 0 else(zE d h zs).getD f.toNat 0
theorem zfb(w:World):Has .i64 (w.alloc (.cells #[.int .i64 16] 3)) (some ⟨w.heap.size,0,none⟩) 1 [16]:=by
 refine⟨rfl,?_,.inr ⟨w.heap.size,0,rfl,by simp,fun i hi=>?_⟩⟩
 ·intro n a;simp only[zoD,zoA,or_false]at a;subst a;decide
 ·have:i=0:=by omega
  subst this;simp
theorem zd9{d:PlanD}{w:World}(c:d.lie w){k:Nat}(f:k<d.heads.n):∃g off,d.heads.a=some ⟨g,off,none⟩/\(d.hs.getD k HeadD.z).lie w g (off+k):=by
 have b:k<d.hs.length:=by rw[c.hs.1];exact f
 obtain⟨g,off,e,h⟩:=c.hs.2 k _ (zoh b);refine⟨g,off,e,?_⟩;rw[zoi,zoh b,zoC];rwa[Nat.mul_one]at h
theorem zgc(d:PlanD)(h:Int)(m:Option Addr)(an u:Nat)(zs:List Int)(w:World)(i:d.lie w)(hz:Has .i64 w m an zs):
 Calls Tryz.prog 154 #[d.v,.int .i64 h,.slice m an u] w fun e w'=>∃s:QSl,e=.returned (.slice s.a s.n s.c)/\Has .i64 w' s.a s.n (zE d h zs)/\Below w.heap.size w w':=by
 have f:∀o,Below w.heap.size w (w.alloc o):=fun o=>ze (zof _ _)
 have r:∀o y,Below w.heap.size w ((w.alloc o).alloc y):=fun o y=>ze (ze (zof _ _))
 by_cases t:h= -1
 ·subst t;have b:Hid (zE d (-1) zs=d.ms):=by simp[zE,Hid]
  have H:=hid i.ms;clear i hz;go_enter Tryz.func154,Tryz.ntmps154
  go_wp2;go_ret;exact⟨d.mta,rfl,by rw[b.out];exact H.out.step (f _),f _⟩
 by_cases q:h= -2
 ·subst q;have b:Hid (zE d (-2) zs=zs):=by simp[zE,Hid]
  have H:=hid hz;clear i hz;go_enter Tryz.func154,Tryz.ntmps154
  go_wp2;go_ret;exact⟨⟨m,an,u⟩,rfl,by rw[b.out];exact H.out.step (f _),f _⟩
 by_cases j:h= -3
 ·subst j;have b:Hid (zE d (-3) zs=[16]):=by simp[zE,Hid]
  clear i hz;go_enter Tryz.func154,Tryz.ntmps154
  go_wp2;go_ret;refine⟨⟨some ⟨w.heap.size+1,0,none⟩,1,1⟩,rfl,?_,r _ _⟩;rw[b.out];have:=zfb (w.alloc (.cells #[.slice d.heads.a d.heads.n d.heads.c,.slice d.mta.a d.mta.n d.mta.c,.slice d.states.a d.states.n d.states.c,.slice d.acts.a d.acts.n d.acts.c,.slice d.tabs.a d.tabs.n d.tabs.c,.slice d.nodes.a d.nodes.n d.nodes.c,.slice d.out.a d.out.n d.out.c] 29));simpa using this
 by_cases A:h<0\/(d.heads.n:Int)<=h
 ·have b:Hid (zE d h zs=[]):=by simp only[Hid,zE,if_neg t,if_neg q,if_neg j,if_pos A]
  clear i hz;go_enter Tryz.func154,Tryz.ntmps154
  go_wp2
  all_goals (first|(exfalso;omega)|(go_ret;exact⟨⟨none,0,0⟩,rfl,by rw[b.out];exact zW _ _,f _⟩))
 ·obtain⟨k,rfl⟩:∃k:Nat,h=k:=⟨h.toNat,by omega⟩
  have D:k<d.heads.n:=by omega
  have b:Hid (zE d k zs=(d.hs.getD k HeadD.z).ws):=by simp only[Hid,zE,if_neg t,if_neg q,if_neg j,if_neg A,zov]
  obtain⟨g,off,E,l⟩:=zd9 i D;have H:=hid l.2;have B:∀o,(w.alloc o).cell? ⟨g,off+k,none⟩=some (.slice (d.hs.getD k HeadD.z).w.a (d.hs.getD k HeadD.z).w.n (d.hs.getD k HeadD.z).w.c):=fun o=>za l.1.1 (f o)
  have C:=B;clear i hz l;generalize d.hs.getD k HeadD.z=x at*;go_enter Tryz.func154,Tryz.ntmps154
  go_wp2
  all_goals (first|(exfalso;omega)|skip)
  go_ret;exact⟨x.w,rfl,by rw[b.out];exact H.out.step (f _),f _⟩
theorem zbQ{d:PlanD}{h f:Int}{zs:List Int}(a:f<0\/((zE d h zs).length:Int)<=f):yU d h f zs=0:=by simp only[yU,if_pos a]
theorem zfc{d:PlanD}{h:Int}{k:Nat}{zs:List Int}(a:k<(zE d h zs).length):yU d h k zs=(zE d h zs).getD k 0:=by
 have:¬((k:Int)<0\/((zE d h zs).length:Int)<=k):=by omega
 simp only[yU,if_neg this,zov]
theorem zfd{w:World}{s:QSl}{l:List Int}{k:Nat}(hs:Has .i64 w s.a s.n l)(b:k<s.n):∃g off,s.a=some ⟨g,off,none⟩/\w.cell? ⟨g,off+k,none⟩=some (.int .i64 (l.getD k 0)):=by
 obtain⟨g,off,e,_,c⟩:=hs.some (by omega)
 exact⟨g,off,e,c k b⟩
theorem zaw(d:PlanD)(h f:Int)(l:Option Addr)(an q:Nat)(zs:List Int)(w:World)(u:d.lie w)(hz:Has .i64 w l an zs):
 Calls Tryz.prog 129 #[d.v,.agg #[.int .i64 h,.int .i64 f],.slice l an q] w fun e w'=>e=.returned (.int .i64 (yU d h f zs))/\Below w.heap.size w w':=by
 have b:∀o i,Below w.heap.size w ((w.alloc o).alloc i):=fun o i=>ze (ze (zof _ _))
 have A:∀o i,Hid (Calls Tryz.prog 154 #[d.v,.int .i64 h,.slice l an q] ((w.alloc o).alloc i) fun e w'=>∃s:QSl,e=.returned (.slice s.a s.n s.c)/\Has .i64 w' s.a s.n (zE d h zs)/\Below ((w.alloc o).alloc i).heap.size ((w.alloc o).alloc i) w'):=fun o i=>zgc d h l an q zs _ (u.step (b o i)) (hz.step (b o i))
 clear u hz;go_enter Tryz.func129,Tryz.ntmps129
 go_wp2_with fail
 refine(A _ _).out.mono ?_;rintro e y ⟨s,rfl,hs,hb⟩;clear A;have j:=hid (zh (b _ _) hb);have c0:=za (w':=y) (g:=w.heap.size+1) (o:=0) (v:=.int .i64 h) (by simp) hb
 have c1:=za (w':=y) (g:=w.heap.size+1) (o:=1) (v:=.int .i64 f) (by simp) hb
 clear hb b;have m:=hs.1;by_cases B:f<0\/(s.n:Int)<=f
 ·have t:Hid (yU d h f zs=0):=zbQ (by rw[m];exact B)
  clear hs m;go_wp2
  all_goals (first|(exfalso;omega)|(go_ret;exact⟨by rw[t.out];rfl,j.out⟩))
 ·obtain⟨k,rfl⟩:∃k:Nat,f=k:=⟨f.toNat,by omega⟩
  have x:k<s.n:=by omega
  have t:Hid (yU d h k zs=(zE d h zs).getD k 0):=zfc (by rw[m];exact x)
  obtain⟨g,off,D,C⟩:=zfd hs x;clear hs m;generalize(zE d h zs).getD k 0=r at*;go_wp2
  all_goals (first|(exfalso;omega)|skip)
  go_ret;exact⟨by rw[t.out];rfl,j.out⟩
end Go.Proofs.YtbmcgbmegcpgnaaGreat
