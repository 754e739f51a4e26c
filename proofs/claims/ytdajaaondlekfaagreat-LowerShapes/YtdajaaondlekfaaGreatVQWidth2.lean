import Derived.Test.YtdajaaondlekfaaGreatG0
set_option maxHeartbeats 2000000
set_option maxRecDepth 20000
set_option linter.unusedSimpArgs false
namespace Go.Proofs.YtdajaaondlekfaaGreat
open Go.RowKit
theorem jI(d:PlanD)(h f:Int)(F:Option Addr)(an ac:Nat)(zs:List Int)(w:World)(C:d.lie w)(J:Has .i64 w F an zs):
 Calls Tryz.prog 97 #[d.v,.agg #[.int .i64 h,.int .i64 f],.slice F an ac] w fun e w'=>e=.returned (.int .i64 (yU d h f zs))/\Below w.heap.size w w':=by
 have b:∀o i,Below w.heap.size w ((w.alloc o).alloc i):=fun o i=>ze (ze (zof _ _))
 have l:∀o i t,Below w.heap.size w (((w.alloc o).alloc i).alloc t):=fun o i t=>ze (ze (ze (zof _ _)))
 by_cases H:h= -3
 ·subst H;have D:zE d (-3) zs=[16]:=by simp[zE]
  clear C J;by_cases h0:f=0
  ·subst h0;have hr:Hid (yU d (-3) 0 zs=16):=by simp[Hid,yU,D]
   clear D;go_enter Tryz.func97,Tryz.ntmps97
   go_wp2;go_ret;exact⟨by rw[hr.out];rfl,l _ _ _⟩
  ·have hr:Hid (yU d (-3) f zs=0):=zbQ (by rw[D];simp;omega)
   clear D;go_enter Tryz.func97,Tryz.ntmps97
   go_wp2
   all_goals (first|(exfalso;omega)|(go_ret;exact⟨by rw[hr.out];rfl,l _ _ _⟩))
 obtain⟨s,es,hs⟩:∃s:QSl,(h= -1/\s=d.mta\/h= -2/\s=⟨F,an,ac⟩\/(¬h= -1/\¬h= -2/\(h<0\/(d.heads.n:Int)<=h))/\s=⟨none,0,0⟩\/(∃k:Nat,h=k/\k<d.heads.n/\∃g off,d.heads.a=some ⟨g,off,none⟩/\w.cell? ⟨g,off+k,none⟩=some (.slice s.a s.n s.c)))/\Has .i64 w s.a s.n (zE d h zs):=by
  by_cases m:h= -1
  ·exact⟨d.mta,.inl ⟨m,rfl⟩,by rw[show zE d h zs=d.ms by simp[zE,m]];exact C.ms⟩
  by_cases h2:h= -2
  ·exact⟨⟨F,an,ac⟩,.inr (.inl ⟨h2,rfl⟩),by rw[show zE d h zs=zs by simp[zE,h2]];exact J⟩
  by_cases u:h<0\/(d.heads.n:Int)<=h
  ·exact⟨⟨none,0,0⟩,.inr (.inr (.inl ⟨⟨m,h2,u⟩,rfl⟩)),by rw[show zE d h zs=[]by simp only[zE,if_neg m,if_neg h2,if_neg H,if_pos u]];exact zW _ _⟩
  ·obtain⟨k,rfl⟩:∃k:Nat,h=k:=⟨h.toNat,by omega⟩
   have A:k<d.heads.n:=by omega
   obtain⟨g,off,K,hd⟩:=zd9 C A;exact⟨(d.hs.getD k HeadD.z).w,.inr (.inr (.inr ⟨k,rfl,A,g,off,K,hd.1.1⟩)),by rw[show zE d k zs=(d.hs.getD k HeadD.z).ws by simp only[zE,if_neg m,if_neg h2,if_neg H,if_neg u,zov]];exact hd.2⟩
 clear C J;have E:=hs.1;by_cases h0:f<0\/(s.n:Int)<=f
 ·have hr:Hid (yU d h f zs=0):=zbQ (by rw[E];exact h0)
  clear hs E l;rcases es with⟨rfl,rfl⟩|⟨rfl,rfl⟩|⟨⟨m,h2,u⟩,rfl⟩|⟨k,rfl,A,g,off,K,q⟩
  ·go_enter Tryz.func97,Tryz.ntmps97
   go_wp2
   all_goals (first|(exfalso;omega)|(go_ret;exact⟨by rw[hr.out];rfl,b _ _⟩))
  ·dsimp only at h0;go_enter Tryz.func97,Tryz.ntmps97
   go_wp2
   all_goals (first|(exfalso;omega)|(go_ret;exact⟨by rw[hr.out];rfl,b _ _⟩))
  ·dsimp only at h0;go_enter Tryz.func97,Tryz.ntmps97
   go_wp2
   all_goals (first|(exfalso;omega)|(go_ret;exact⟨by rw[hr.out];rfl,b _ _⟩))
  ·have I:∀o i,((w.alloc o).alloc i).cell? ⟨g,off+k,none⟩=some (.slice s.a s.n s.c):=fun o i=>za q (b o i)
   clear q;go_enter Tryz.func97,Tryz.ntmps97
   go_wp2
   all_goals (first|(exfalso;omega)|(go_ret;exact⟨by rw[hr.out];rfl,b _ _⟩))
 ·obtain⟨j,rfl⟩:∃j:Nat,f=j:=⟨f.toNat,by omega⟩
  have B:j<s.n:=by omega
  have hr:Hid (yU d h j zs=(zE d h zs).getD j 0):=zfc (by rw[E];exact B)
  obtain⟨M,x,G,y⟩:=zfd hs B;clear hs E l;generalize(zE d h zs).getD j 0=r at*;have L:∀o i,((w.alloc o).alloc i).cell? ⟨M,x+j,none⟩=some (.int .i64 r):=fun o i=>za y (b o i)
  clear y;rcases es with⟨rfl,rfl⟩|⟨rfl,rfl⟩|⟨⟨m,h2,u⟩,rfl⟩|⟨k,rfl,A,g,off,K,q⟩
  ·go_enter Tryz.func97,Tryz.ntmps97
   go_wp2
   all_goals (first|(exfalso;omega)|(go_ret;exact⟨by rw[hr.out];rfl,b _ _⟩))
  ·dsimp only at h0 B G;go_enter Tryz.func97,Tryz.ntmps97
   go_wp2
   all_goals (first|(exfalso;omega)|(go_ret;exact⟨by rw[hr.out];rfl,b _ _⟩))
  ·exact absurd B (by simp)
  ·have I:∀o i,((w.alloc o).alloc i).cell? ⟨g,off+k,none⟩=some (.slice s.a s.n s.c):=fun o i=>za q (b o i)
   clear q;go_enter Tryz.func97,Tryz.ntmps97
   go_wp2
   all_goals (first|(exfalso;omega)|(go_ret;exact⟨by rw[hr.out];rfl,b _ _⟩))
def yk(op:Int):Int:=if op=1\/op=2 then 0 else if op=13 then 1 else if 3<=op/\op<=12 then 2 else -1
theorem zcU(op:Int):op=1\/op=2\/op=3\/op=4\/op=5\/op=6\/op=7\/op=8\/op=9\/op=10\/op=11\/op=12\/op=13\/op<1\/13<op:=by omega
theorem zdE(op:Int)(w:World):Calls Tryz.prog 118 #[.int .i64 op] w fun e w'=>e=.returned (.int .i64 (yk op))/\w'=w:=by
 rcases zcU op with h|h|h|h|h|h|h|h|h|h|h|h|h|h
 ·subst h;go_enter Tryz.func118,Tryz.ntmps118
  go_wp2;go_ret;exact⟨rfl,rfl⟩
 iterate 12
  ·subst h;go_enter Tryz.func118,Tryz.ntmps118
   go_wp2;go_ret;exact⟨rfl,rfl⟩
 ·have hr:Hid (yk op= -1):=by
   simp only[Hid,yk];rw[if_neg (by omega),if_neg (by omega),if_neg (by omega)]
  have l:¬op=1:=by omega
  have h2:¬op=2:=by omega
  have g:¬op=3:=by omega
  have j:¬op=4:=by omega
  have k:¬op=5:=by omega
  have f:¬op=6:=by omega
  have h7:¬op=7:=by omega
  have i:¬op=8:=by omega
  have m:¬op=9:=by omega
  have c:¬op=10:=by omega
  have d:¬op=11:=by omega
  have b:¬op=12:=by omega
  have a:¬op=13:=by omega
  clear h;go_enter Tryz.func118,Tryz.ntmps118
  go_wp2
  all_goals (first|(exfalso;omega)|(go_ret;exact⟨by rw[hr.out];rfl,rfl⟩))
theorem zfe(op:Int)(w:World):Calls Tryz.prog 136 #[.int .i64 op] w fun e w'=>e=.returned (.int .i64 (yk op))/\Below w.heap.size w w':=by
 have a:∀o,Below w.heap.size w (w.alloc o):=fun o=>ze (zof _ _)
 rcases zcU op with h|h|h|h|h|h|h|h|h|h|h|h|h|h
 iterate 13
  ·subst h;go_enter Tryz.func136,Tryz.ntmps136
   go_wp2;go_ret;exact⟨rfl,a _⟩
 ·have hr:Hid (yk op= -1):=by
   simp only[Hid,yk];rw[if_neg (by omega),if_neg (by omega),if_neg (by omega)]
  go_enter Tryz.func136,Tryz.ntmps136
  go_wp2
  all_goals (first|(exfalso;omega)|(go_ret;exact⟨by rw[hr.out];rfl,zof _ _⟩))
end Go.Proofs.YtdajaaondlekfaaGreat
