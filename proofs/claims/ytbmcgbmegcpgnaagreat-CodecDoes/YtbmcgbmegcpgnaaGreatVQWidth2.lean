import Derived.Test.YtbmcgbmegcpgnaaGreatVQWidth
set_option maxHeartbeats 2000000
set_option maxRecDepth 20000
set_option linter.unusedSimpArgs false
namespace Go.Proofs.YtbmcgbmegcpgnaaGreat
open Go.RowKit
theorem jI(d:PlanD)(h f:Int)(E:Option Addr)(an L:Nat)(zs:List Int)(w:World)(I:d.lie w)(hz:Has .i64 w E an zs):
 Calls Tryz.prog 65 #[d.v,.agg #[.int .i64 h,.int .i64 f],.slice E an L] w fun e w'=>e=.returned (.int .i64 (yU d h f zs))/\Below w.heap.size w w':=by
 have b:∀o i,Below w.heap.size w ((w.alloc o).alloc i):=fun o i=>ze (ze (zof _ _))
 have m:∀o i C,Below w.heap.size w (((w.alloc o).alloc i).alloc C):=fun o i C=>ze (ze (ze (zof _ _)))
 by_cases N:h= -3
 ·subst N;have G:zE d (-3) zs=[16]:=by simp[zE]
  clear I hz;by_cases u:f=0
  ·subst u;have l:Hid (yU d (-3) 0 zs=16):=by simp[Hid,yU,G]
   clear G;go_enter Tryz.func65,Tryz.ntmps65
   go_wp2;go_ret;exact⟨by rw[l.out];rfl,m _ _ _⟩
  ·have l:Hid (yU d (-3) f zs=0):=zbQ (by rw[G];simp;omega)
   clear G;go_enter Tryz.func65,Tryz.ntmps65
   go_wp2
   all_goals (first|(exfalso;omega)|(go_ret;exact⟨by rw[l.out];rfl,m _ _ _⟩))
 obtain⟨s,es,hs⟩:∃s:QSl,(h= -1/\s=d.mta\/h= -2/\s=⟨E,an,L⟩\/(¬h= -1/\¬h= -2/\(h<0\/(d.heads.n:Int)<=h))/\s=⟨none,0,0⟩\/(∃k:Nat,h=k/\k<d.heads.n/\∃g off,d.heads.a=some ⟨g,off,none⟩/\w.cell? ⟨g,off+k,none⟩=some (.slice s.a s.n s.c)))/\Has .i64 w s.a s.n (zE d h zs):=by
  by_cases t:h= -1
  ·exact⟨d.mta,.inl ⟨t,rfl⟩,by rw[show zE d h zs=d.ms by simp[zE,t]];exact I.ms⟩
  by_cases q:h= -2
  ·exact⟨⟨E,an,L⟩,.inr (.inl ⟨q,rfl⟩),by rw[show zE d h zs=zs by simp[zE,q]];exact hz⟩
  by_cases B:h<0\/(d.heads.n:Int)<=h
  ·exact⟨⟨none,0,0⟩,.inr (.inr (.inl ⟨⟨t,q,B⟩,rfl⟩)),by rw[show zE d h zs=[]by simp only[zE,if_neg t,if_neg q,if_neg N,if_pos B]];exact zW _ _⟩
  ·obtain⟨k,rfl⟩:∃k:Nat,h=k:=⟨h.toNat,by omega⟩
   have F:k<d.heads.n:=by omega
   obtain⟨g,off,K,O⟩:=zd9 I F;exact⟨(d.hs.getD k HeadD.z).w,.inr (.inr (.inr ⟨k,rfl,F,g,off,K,O.1.1⟩)),by rw[show zE d k zs=(d.hs.getD k HeadD.z).ws by simp only[zE,if_neg t,if_neg q,if_neg N,if_neg B,zov]];exact O.2⟩
 clear I hz;have H:=hs.1;by_cases u:f<0\/(s.n:Int)<=f
 ·have l:Hid (yU d h f zs=0):=zbQ (by rw[H];exact u)
  clear hs H m;rcases es with⟨rfl,rfl⟩|⟨rfl,rfl⟩|⟨⟨t,q,B⟩,rfl⟩|⟨k,rfl,F,g,off,K,x⟩
  ·go_enter Tryz.func65,Tryz.ntmps65
   go_wp2
   all_goals (first|(exfalso;omega)|(go_ret;exact⟨by rw[l.out];rfl,b _ _⟩))
  ·dsimp only at u;go_enter Tryz.func65,Tryz.ntmps65
   go_wp2
   all_goals (first|(exfalso;omega)|(go_ret;exact⟨by rw[l.out];rfl,b _ _⟩))
  ·dsimp only at u;go_enter Tryz.func65,Tryz.ntmps65
   go_wp2
   all_goals (first|(exfalso;omega)|(go_ret;exact⟨by rw[l.out];rfl,b _ _⟩))
  ·have M:∀o i,((w.alloc o).alloc i).cell? ⟨g,off+k,none⟩=some (.slice s.a s.n s.c):=fun o i=>za x (b o i)
   clear x;go_enter Tryz.func65,Tryz.ntmps65
   go_wp2
   all_goals (first|(exfalso;omega)|(go_ret;exact⟨by rw[l.out];rfl,b _ _⟩))
 ·obtain⟨j,rfl⟩:∃j:Nat,f=j:=⟨f.toNat,by omega⟩
  have D:j<s.n:=by omega
  have l:Hid (yU d h j zs=(zE d h zs).getD j 0):=zfc (by rw[H];exact D)
  obtain⟨P,A,J,y⟩:=zfd hs D;clear hs H m;generalize(zE d h zs).getD j 0=r at*;have Q:∀o i,((w.alloc o).alloc i).cell? ⟨P,A+j,none⟩=some (.int .i64 r):=fun o i=>za y (b o i)
  clear y;rcases es with⟨rfl,rfl⟩|⟨rfl,rfl⟩|⟨⟨t,q,B⟩,rfl⟩|⟨k,rfl,F,g,off,K,x⟩
  ·go_enter Tryz.func65,Tryz.ntmps65
   go_wp2
   all_goals (first|(exfalso;omega)|(go_ret;exact⟨by rw[l.out];rfl,b _ _⟩))
  ·dsimp only at u D J;go_enter Tryz.func65,Tryz.ntmps65
   go_wp2
   all_goals (first|(exfalso;omega)|(go_ret;exact⟨by rw[l.out];rfl,b _ _⟩))
  ·exact absurd D (by simp)
  ·have M:∀o i,((w.alloc o).alloc i).cell? ⟨g,off+k,none⟩=some (.slice s.a s.n s.c):=fun o i=>za x (b o i)
   clear x;go_enter Tryz.func65,Tryz.ntmps65
   go_wp2
   all_goals (first|(exfalso;omega)|(go_ret;exact⟨by rw[l.out];rfl,b _ _⟩))
def yk(op:Int):Int:=if op=1\/op=2 then 0 else if op=13 then 1 else if 3<=op/\op<=12 then 2 else -1
theorem zcU(op:Int):op=1\/op=2\/op=3\/op=4\/op=5\/op=6\/op=7\/op=8\/op=9\/op=10\/op=11\/op=12\/op=13\/op<1\/13<op:=by omega
theorem zdE(op:Int)(w:World):Calls Tryz.prog 155 #[.int .i64 op] w fun e w'=>e=.returned (.int .i64 (yk op))/\w'=w:=by
 rcases zcU op with h|h|h|h|h|h|h|h|h|h|h|h|h|h
 ·subst h;go_enter Tryz.func155,Tryz.ntmps155
  go_wp2;go_ret;exact⟨rfl,rfl⟩
 iterate 12
  ·subst h;go_enter Tryz.func155,Tryz.ntmps155
   go_wp2;go_ret;exact⟨rfl,rfl⟩
 ·have b:Hid (yk op= -1):=by
   simp only[Hid,yk];rw[if_neg (by omega),if_neg (by omega),if_neg (by omega)]
  have i:¬op=1:=by omega
  have l:¬op=2:=by omega
  have g:¬op=3:=by omega
  have o:¬op=4:=by omega
  have m:¬op=5:=by omega
  have q:¬op=6:=by omega
  have n:¬op=7:=by omega
  have j:¬op=8:=by omega
  have k:¬op=9:=by omega
  have d:¬op=10:=by omega
  have a:¬op=11:=by omega
  have c:¬op=12:=by omega
  have f:¬op=13:=by omega
  clear h;go_enter Tryz.func155,Tryz.ntmps155
  go_wp2
  all_goals (first|(exfalso;omega)|(go_ret;exact⟨by rw[b.out];rfl,rfl⟩))
theorem zfe(op:Int)(w:World):Calls Tryz.prog 111 #[.int .i64 op] w fun e w'=>e=.returned (.int .i64 (yk op))/\Below w.heap.size w w':=by
 have b:∀o,Below w.heap.size w (w.alloc o):=fun o=>ze (zof _ _)
 rcases zcU op with h|h|h|h|h|h|h|h|h|h|h|h|h|h
 iterate 13
  ·subst h;go_enter Tryz.func111,Tryz.ntmps111
   go_wp2;go_ret;exact⟨rfl,b _⟩
 ·have a:Hid (yk op= -1):=by
   simp only[Hid,yk];rw[if_neg (by omega),if_neg (by omega),if_neg (by omega)]
  go_enter Tryz.func111,Tryz.ntmps111
  go_wp2
  all_goals (first|(exfalso;omega)|(go_ret;exact⟨by rw[a.out];rfl,zof _ _⟩))
end Go.Proofs.YtbmcgbmegcpgnaaGreat
