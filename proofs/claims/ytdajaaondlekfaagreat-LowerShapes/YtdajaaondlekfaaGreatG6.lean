import Derived.Test.YtdajaaondlekfaaGreatVBase
import Derived.WalkKit
import Derived.WalkSpells
import Derived.WalkLawsBesides
import Derived.Test.YtdajaaondlekfaaGreatG1
import Derived.Deep.QuietTactic
import Derived.BigQuiet
import Derived.Laws.ShiftsVarLaws
import Derived.Deep.RegionWith
import Derived.Lib.SliceRun
import Derived.OpenShut
import Derived.Deep.RegionHeld3
import Derived.Laws.EntriesVeiled
set_option maxHeartbeats 2000000
set_option maxRecDepth 20000
set_option linter.unusedSimpArgs false
namespace Go.Proofs.YtdajaaondlekfaaGreat
open Go.RowKit
def yI(n:Int):Int:=if 1<=n/\n<=64 then((2^n.toNat-1:Nat):Int)else 0
theorem zhZ(k:Nat)(h:k<64):IntKind.u64.wrap (IntKind.u64.wrap (2*((2^k-1:Nat):Int))+1)=((2^(k+1)-1:Nat):Int):=by
 have a:2^k<=2^63:=Nat.pow_le_pow_right (by decide) (by omega)
 have h2:1<=2^k:=Nat.one_le_two_pow;rw[IntKind.wrap_u64,IntKind.wrap_u64,Nat.pow_succ];omega
theorem zjW(n:Int)(w:World):
 Calls Tryz.prog 134 #[.int .i64 n] w fun e w'=>e=.returned (.int .u64 (yI n))/\w'=w:=by
 by_cases b:n<=64
 ·by_cases h:1<=n
  ·have a:Hid (yI n=((2^n.toNat-1:Nat):Int)):=by unfold yI;rw[if_pos ⟨h,b⟩];rfl
   generalize yI n=M at*;go_enter Tryz.func134,Tryz.ntmps134
   go_wp2;go_loop [3,4] (fun v q=>∃k:Nat,k<=n.toNat/\q=.int .i64 k/\v=.int .u64 ((2^k-1:Nat):Int)) (fun _ q=>n.toNat-(intOf q).toNat)
   case atStart=>exact⟨0,zon _,rfl,rfl⟩
   case round=>
    obtain⟨k,i,rfl,rfl⟩:=hrel;have c:Hid (k<64->IntKind.u64.wrap (IntKind.u64.wrap (2*((2^k-1:Nat):Int))+1)=((2^(k+1)-1:Nat):Int)):=zhZ k;generalize d:((2^k-1:Nat):Int)=V at*;have f:Hid (((2^k-1:Nat):Int)=V):=d;clear d;by_cases g:(k:Int)<n
    ·go_wp2;go_round
     case rel=>exact⟨k+1,by omega,by go_num,zhs (c.out (by omega))⟩
     case measure=>simp[intOf];omega
    ·go_wp2;go_ret;exact⟨xv (by rw[a.out,<-f.out,show k=n.toNat from by omega]),rfl⟩
  ·have a:Hid (yI n=0):=by unfold yI;rw[if_neg (by omega)];rfl
   generalize yI n=M at*;go_enter Tryz.func134,Tryz.ntmps134
   go_wp2;go_loop [3,4] (fun v q=>q=.int .i64 0/\v=.int .u64 0) (fun _ _=>0)
   case atStart=>exact⟨rfl,rfl⟩
   case round=>
    obtain⟨rfl,rfl⟩:=hrel;have h0:¬0<n:=by omega
    go_wp2;go_ret;exact⟨xv (by rw[a.out]),rfl⟩
 ·have a:Hid (yI n=0):=by unfold yI;rw[if_neg (by omega)];rfl
  generalize yI n=M at*;go_enter Tryz.func134,Tryz.ntmps134
  go_wp2;go_loop [3,4] (fun v q=>q=.int .i64 0/\v=.int .u64 0) (fun _ _=>0)
  case atStart=>exact⟨rfl,rfl⟩
  case round=>
   obtain⟨rfl,rfl⟩:=hrel;have h0:0<n:=by omega
   go_wp2;go_ret;exact⟨xv (by rw[a.out]),rfl⟩
theorem zfi(n:Int)(w:World)(a:1<=n)(h2:n<=64):
 Calls Tryz.prog 190 #[.int .i64 n] w fun e w'=>e=.returned (.bool true)/\w'=w:=by
 go_enter Tryz.func190,Tryz.ntmps190
 go_wp2;go_ret;exact⟨rfl,rfl⟩
theorem zgi(n:Int)(w:World)(h:n<1\/64<n):
 Calls Tryz.prog 190 #[.int .i64 n] w fun e w'=>e=.returned (.bool false)/\w'=w:=by
 by_cases a:1<=n
 ·have h2:¬n<=64:=by omega
  go_enter Tryz.func190,Tryz.ntmps190
  go_wp2;go_ret;exact⟨rfl,rfl⟩
 ·go_enter Tryz.func190,Tryz.ntmps190
  go_wp2;go_ret;exact⟨rfl,rfl⟩
theorem zkz(n:Int)(c:1<=n)(h2:n<=64):(18446744073709551615:Int)/2^(64-n).toNat=((2^n.toNat-1:Nat):Int):=by
 obtain⟨m,rfl⟩:=Int.eq_ofNat_of_zero_le (show 0<=n by omega)
 have e:(64-(m:Int)).toNat=64-m:=by omega
 rw[e,zov];have a:18446744073709551615/2^(64-m)=2^m-1:=by
  have b:2^m*2^(64-m)=18446744073709551616:=by
   rw[<-Nat.pow_add,show m+(64-m)=64 from by omega]
  have f:1<=2^m:=Nat.one_le_two_pow;have d:1<=2^(64-m):=Nat.one_le_two_pow;apply Nat.div_eq_of_lt_le
  ·rw[Nat.sub_mul,b];omega
  ·rw[show 2^m-1+1=2^m from by omega,b];omega
 rw[<-a];simp
theorem zkA(n:Int)(w:World)(a:1<=n)(h2:n<=64):
 Calls Tryz.prog 155 #[.int .i64 n] w fun e w'=>e=.returned (.int .u64 ((2^n.toNat-1:Nat):Int))/\w'=w:=by
 go_enter Tryz.func155,Tryz.ntmps155
 go_wp2_with fail
 refine(zfi _ _ a h2).mono ?_;rintro e w' ⟨rfl,rfl⟩;go_wp2;go_ret;exact⟨xv (zkz n a h2),rfl⟩
theorem zlT(n:Int)(w:World)(h:n<1\/64<n):
 Calls Tryz.prog 155 #[.int .i64 n] w fun e w'=>e=.returned (.int .u64 0)/\w'=w:=by
 go_enter Tryz.func155,Tryz.ntmps155
 go_wp2_with fail
 refine(zgi _ _ h).mono ?_;rintro e w' ⟨rfl,rfl⟩;go_wp2;go_ret;exact⟨rfl,rfl⟩
theorem zi7(n:Int)(w:World):Calls Tryz.prog 155 #[.int .i64 n] w fun e w'=>e=.returned (.int .u64 (yI n))/\w'=w:=by
 unfold yI;split
 ·exact zkA n w (by omega) (by omega)
 ·exact zlT n w (by omega)
abbrev F0:Obj:=.cells #[.int .i64 0,.int .i64 0] 34
theorem zA(x y:Int)(w:World):
 Calls Tryz.prog 17 #[.int .i64 x,.int .i64 y] w fun e w'=>e=.returned (.agg #[.int .i64 x,.int .i64 y])/\Below w.heap.size w w':=by
 go_enter Tryz.func17,Tryz.ntmps17
 go_wp2;exact bodyPost_ret (v:=.agg #[.int .i64 x,.int .i64 y]) (by simp[results,Tryz.results17,go_sem]) rfl ⟨rfl,(zof _ _).alloc (zos _) _⟩
abbrev HD(a:Option Addr)(m c:Nat):Value:=.agg #[.slice a m c]
abbrev H0(a:Option Addr)(m c:Nat):Obj:=.cells #[.slice a m c] 55
theorem kE{w wr:World}{a:Option Addr}{m c:Nat}(hb:Below (w.heap.size+2) ((w.alloc (H0 a m c)).alloc F0) wr):
 wr.cell? ⟨w.heap.size,0,none⟩=some (.slice a m c)/\wr.cell? ⟨w.heap.size+1,0,none⟩=some (.int .i64 0)/\wr.cell? ⟨w.heap.size+1,1,none⟩=some (.int .i64 0)/\wr.frozen? ⟨w.heap.size+1,0,none⟩=false/\wr.frozen? ⟨w.heap.size+1,1,none⟩=false/\w.heap.size+1<wr.heap.size:=
 ⟨(hb.cell (p:=⟨w.heap.size,0,none⟩) (by simp)).trans (by simp),(hb.cell (p:=⟨w.heap.size+1,0,none⟩) (by simp)).trans (by simp),(hb.cell (p:=⟨w.heap.size+1,1,none⟩) (by simp)).trans (by simp),
  (hb.frozen (p:=⟨w.heap.size+1,0,none⟩) (by simp)).trans (by simp),(hb.frozen (p:=⟨w.heap.size+1,1,none⟩) (by simp)).trans (by simp),by have:=hb.size;simp at this;omega⟩
theorem qj{w wr:World}{a:Option Addr}{m c:Nat}(hb:Below (w.heap.size+2) ((w.alloc (H0 a m c)).alloc F0) wr)(x y:Value):Below w.heap.size w ((wr.setCell ⟨w.heap.size+1,0,none⟩ x).setCell ⟨w.heap.size+1,1,none⟩ y):=
 (((ze (ze (zof w.heap.size w))).trans (hb.mono (by omega))).setCell (by simp) _).setCell (by simp) _
theorem zit(a:Option Addr)(m c:Nat)(w:World)(h:(m:Int)<1\/8<(m:Int)):
 Calls Tryz.prog 107 #[HD a m c] w fun e w'=>e=.returned (.tuple #[.int .i64 0,.agg #[.int .i64 2,.int .i64 (-1)]])/\Below w.heap.size w w':=by
 by_cases b:(m:Int)<1
 ·go_enter Tryz.func107,Tryz.ntmps107
  go_wp2;exact bodyPost_ret (v:=.tuple #[.int .i64 0,.agg #[.int .i64 2,.int .i64 (-1)]]) (by simp[results,Tryz.results107,go_sem]) rfl ⟨rfl,ze (ze (zof _ _))⟩
 ·have h2:8<(m:Int):=by omega
  go_enter Tryz.func107,Tryz.ntmps107
  go_wp2;exact bodyPost_ret (v:=.tuple #[.int .i64 0,.agg #[.int .i64 2,.int .i64 (-1)]]) (by simp[results,Tryz.results107,go_sem]) rfl ⟨rfl,ze (ze (zof _ _))⟩
theorem zgg(a:Option Addr)(m c i:Nat)(ws:List Int)(w:World)(E:1<=m)(C:m<=8)(hw:Has .i64 w a m ws)(hi:i<m)(b:∀j,j<i->Mth.Fit ws j)(d:¬Mth.Fit ws i):
 Calls Tryz.prog 107 #[HD a m c] w fun e w'=>e=.returned (.tuple #[.int .i64 0,.agg #[.int .i64 6,.int .i64 i]])/\Below w.heap.size w w':=by
 have r:=hid b;clear b;obtain⟨p,o,rfl,l,f⟩:=(hw.alloc (o:=H0 a m c)).alloc (o:=F0) |>.some (by omega)
 have HC:=hid f;clear f hw l;go_enter Tryz.func107,Tryz.ntmps107
 go_wp2;go_loop [4,21] (fun t q=>∃k:Nat,k<=i/\q=.int .i64 k/\t=.int .i64 (Mth.off ws k)) (fun _ q=>m-(intOf q).toNat)
 case atStart=>exact⟨0,zon _,rfl,rfl⟩
 case round=>
  obtain⟨k,B,rfl,rfl⟩:=hrel;have h:=HC.out k (by omega)
  have y:=Mth.fit_off ws k (fun j D=>r.out j (by omega))
  by_cases n:k=i
  ·subst n;unfold Mth.Fit at d;simp only[zoi]at d h;generalize ws[k]?.getD 0=x at*;by_cases A:x<1
   ·go_wp2;exact bodyPost_ret (v:=.tuple #[.int .i64 0,.agg #[.int .i64 6,.int .i64 k]]) (by simp[results,Tryz.results107,go_sem]) rfl ⟨rfl,ze (ze (zof _ _))⟩
   ·have u:48<x:=by omega
    clear d;go_wp2;exact bodyPost_ret (v:=.tuple #[.int .i64 0,.agg #[.int .i64 6,.int .i64 k]]) (by simp[results,Tryz.results107,go_sem]) rfl ⟨rfl,ze (ze (zof _ _))⟩
  ·have s:=r.out k (by omega)
   unfold Mth.Fit at s;have g:Hid (Mth.off ws (k+1)=Mth.off ws k+(ws.getD k 0).toNat):=rfl;simp only[zoi]at s h g;generalize ws[k]?.getD 0=x at*;go_wp2;go_round
   case rel=>exact⟨k+1,by omega,by go_num,zhs (by rw[g.out];omega)⟩
   case measure=>simp[intOf];omega
def zbp(N:Nat)(x:Value):Prop:=((N%8=0/\N<=256)->x=.tuple #[.int .i64 ((N/8:Nat):Int),.agg #[.int .i64 0,.int .i64 0]])/\(¬(N%8=0/\N<=256)->x=.tuple #[.int .i64 0,.agg #[.int .i64 6,.int .i64 (-1)]])
theorem zdG(N:Nat)(h:N%8=0)(h2:N<=256):zbp N (.tuple #[.int .i64 ((N/8:Nat):Int),.agg #[.int .i64 0,.int .i64 0]]):=⟨fun _=>rfl,fun a=>absurd ⟨h,h2⟩ a⟩
theorem zbq(N:Nat)(h:¬(N%8=0/\N<=256)):zbp N (.tuple #[.int .i64 0,.agg #[.int .i64 6,.int .i64 (-1)]]):=⟨fun a=>absurd a h,fun _=>rfl⟩
theorem zcX(a:Option Addr)(m c:Nat)(ws:List Int)(w:World)(E:1<=m)(F:m<=8)(hw:Has .i64 w a m ws)(d:∀j,j<m->Mth.Fit ws j):
 Calls Tryz.prog 107 #[HD a m c] w fun e w'=>∃x,e=.returned x/\zbp (Mth.off ws m) x/\Below w.heap.size w w':=by
 have u:=hid d;clear d;obtain⟨p,o,rfl,i,b⟩:=(hw.alloc (o:=H0 a m c)).alloc (o:=F0) |>.some (by omega)
 have HC:=hid b;clear b hw i;go_enter Tryz.func107,Tryz.ntmps107
 go_wp2;go_loop [4,21] (fun t q=>∃k:Nat,k<=m/\q=.int .i64 k/\t=.int .i64 (Mth.off ws k)) (fun _ q=>m-(intOf q).toNat)
 case atStart=>exact⟨0,zon _,rfl,rfl⟩
 case round=>
  obtain⟨k,C,rfl,rfl⟩:=hrel;have B:=Mth.fit_off ws k (fun j D=>u.out j (by omega))
  by_cases A:k<m
  ·have s:=u.out k (by omega)
   have r:=HC.out k (by omega)
   unfold Mth.Fit at s;have f:Hid (Mth.off ws (k+1)=Mth.off ws k+(ws.getD k 0).toNat):=rfl;simp only[zoi]at s r f;generalize ws[k]?.getD 0=x at*;go_wp2;go_round
   case rel=>exact⟨k+1,by omega,by go_num,zhs (by rw[f.out];omega)⟩
   case measure=>simp[intOf];omega
  ·have y:k=m:=by omega
   subst y;generalize g:Mth.off ws k=N at*;have l:=hid g;clear g;have h:(N:Int).tmod 8=((N%8:Nat):Int):=rfl;by_cases hr:N%8=0
   ·have n:((N:Int).tmod 8 !=0)=false:=by rw[h,hr];rfl
    by_cases G:(256:Int)<(N:Int)
    ·clear h;go_wp2;exact bodyPost_ret (v:=.tuple #[.int .i64 0,.agg #[.int .i64 6,.int .i64 (-1)]]) (by simp[results,Tryz.results107,go_sem]) rfl ⟨_,rfl,by rw[l.out];exact zbq N (by omega),ze (ze (zof _ _))⟩
    ·clear h;go_wp2;exact bodyPost_ret (v:=.tuple #[.int .i64 ((N/8:Nat):Int),.agg #[.int .i64 0,.int .i64 0]]) (by simp[results,Tryz.results107,go_sem]) rfl ⟨_,rfl,by rw[l.out];exact zdG N hr (by omega),ze (ze (zof _ _))⟩
   ·have n:((N:Int).tmod 8 !=0)=true:=by rw[h,bne_iff_ne];omega
    clear h;go_wp2;exact bodyPost_ret (v:=.tuple #[.int .i64 0,.agg #[.int .i64 6,.int .i64 (-1)]]) (by simp[results,Tryz.results107,go_sem]) rfl ⟨_,rfl,by rw[l.out];exact zbq N (by omega),ze (ze (zof _ _))⟩
theorem zd8{w w':World}{s t:Nat}{v0 v1 v2 v3 v4 v5 v6 g i j a d f e c:Value}(h:w.cell? ⟨s,3,none⟩=some v0/\w.cell? ⟨s,4,none⟩=some v1/\w.cell? ⟨t,0,none⟩=some v2/\w.cell? ⟨t,1,none⟩=some v3/\w.cell? ⟨t,2,none⟩=some v4/\w.cell? ⟨t,3,none⟩=some v5/\w.cell? ⟨t,4,none⟩=some v6/\w.cell? ⟨t,5,none⟩=some g/\w.cell? ⟨t,6,none⟩=some i/\w.cell? ⟨t,7,none⟩=some j/\w.cell? ⟨t,8,none⟩=some a/\w.cell? ⟨t,9,none⟩=some d/\w.cell? ⟨t,10,none⟩=some f/\w.cell? ⟨t,11,none⟩=some e/\w.cell? ⟨t,12,none⟩=some c)(b:Below w.heap.size w w'):w'.cell? ⟨s,3,none⟩=some v0/\w'.cell? ⟨s,4,none⟩=some v1/\w'.cell? ⟨t,0,none⟩=some v2/\w'.cell? ⟨t,1,none⟩=some v3/\w'.cell? ⟨t,2,none⟩=some v4/\w'.cell? ⟨t,3,none⟩=some v5/\w'.cell? ⟨t,4,none⟩=some v6/\w'.cell? ⟨t,5,none⟩=some g/\w'.cell? ⟨t,6,none⟩=some i/\w'.cell? ⟨t,7,none⟩=some j/\w'.cell? ⟨t,8,none⟩=some a/\w'.cell? ⟨t,9,none⟩=some d/\w'.cell? ⟨t,10,none⟩=some f/\w'.cell? ⟨t,11,none⟩=some e/\w'.cell? ⟨t,12,none⟩=some c:=
 ⟨za (h.1) b,za (h.2.1) b,za (h.2.2.1) b,za (h.2.2.2.1) b,za (h.2.2.2.2.1) b,za (h.2.2.2.2.2.1) b,za (h.2.2.2.2.2.2.1) b,za (h.2.2.2.2.2.2.2.1) b,za (h.2.2.2.2.2.2.2.2.1) b,za (h.2.2.2.2.2.2.2.2.2.1) b,za (h.2.2.2.2.2.2.2.2.2.2.1) b,za (h.2.2.2.2.2.2.2.2.2.2.2.1) b,za (h.2.2.2.2.2.2.2.2.2.2.2.2.1) b,za (h.2.2.2.2.2.2.2.2.2.2.2.2.2.1) b,za (h.2.2.2.2.2.2.2.2.2.2.2.2.2.2) b⟩
end Go.Proofs.YtdajaaondlekfaaGreat
